/-
  No cell of these rows narrows 'for every input' (looked for: loops, veiled, ifaces, maps, wideKeys, modest, calm, conditions, laid).
  DERIVED. THE GIVEN ROWS OF THIS SEAT. 5 by the template 'for every input the law returns true; each argument reads behind the call as it read before'; 0 by the template 'total and deterministic' (their statements: YtdbhhohdfibplaaTotals.lean).
  GIVEN WITH THE SEED: the statements are not yours to turn. If you find one false, say at which input.
  Laid BY PROGRAM, IN A SANDBOX (cutbox-rows.mjs): the forced cells as the released guide's own fill.sh prints them over the translation 6cc20283a846a77e… (all of the seat's roots in one cut). By AI agents, Wed Nov 11 2026. No macro, syntax, notation, axiom, sorry.
-/
import Derived.Test.YtdbhhohdfibplaaChecked
import GoSem.Claim
import GoSem.ClaimJoined
import GoSem.ClaimMapViews
import Derived.JoinedTies
import Derived.KernelRfl
namespace Go.Proofs.Ytdbhhohdfibplaa
/- THE CELL 'sum', in the pinned program and in every row, IS THE sha256 OF THE DUMP (.gsa) THAT YtdbhhohdfibplaaProg.lean LOADS. Nothing in Lean hashes anything: it is a label: what it is worth is what the hold of that sum in a sandbox is worth. -/
noncomputable def Try.pinned : Pinned := { name := "ytdbhhohdfibplaa", sum := "6cc20283a846a77e61b0d13c815cd178ab8642dbe203cfc3329aa7ecd0e4c72d", checked := Try.checked }
namespace Rows
def none {H : Type} : Left H := { results := [], args := [] }

/-- 'laws.FnPuny': WHATEVER THE INPUT: true; the input reads as it did. -/
def fnPunySpec : ChangeSpec := { name := "fnPuny", fn := fun _ => fun
  | [d] => { results := [.lit (.bool true)], args := [d] }
  | _ => none }
def fnPunyRow : OpenClaim := { program := "ytdbhhohdfibplaa", sum := "6cc20283a846a77e61b0d13c815cd178ab8642dbe203cfc3329aa7ecd0e4c72d", func := "loop.example/g00191/laws.FnPuny", spec := "fnPuny", inPlace := ["internal/bytealg.IndexByteString", "slices.overlaps[int]"], unfollowed := true, recurses := true, apart := false }
def FnPunySaid : Prop := fnPunyRow.holds Try.pinned (OpenSpec.ofChange fnPunySpec)

/-- ITS FALSE NEIGHBOUR: 'it returns false'. Refute it at one input. -/
def fnPunyWrong : ChangeSpec := { name := "fnPuny", fn := fun _ => fun
  | [d] => { results := [.lit (.bool false)], args := [d] }
  | _ => none }
def FnPunyWrongFalsely : Prop := fnPunyRow.holds Try.pinned (OpenSpec.ofChange fnPunyWrong)

/-- 'laws.FnDecoded': WHATEVER THE INPUT: true; the input reads as it did. -/
def fnDecodedSpec : ChangeSpec := { name := "fnDecoded", fn := fun _ => fun
  | [d] => { results := [.lit (.bool true)], args := [d] }
  | _ => none }
def fnDecodedRow : OpenClaim := { program := "ytdbhhohdfibplaa", sum := "6cc20283a846a77e61b0d13c815cd178ab8642dbe203cfc3329aa7ecd0e4c72d", func := "loop.example/g00191/laws.FnDecoded", spec := "fnDecoded", inPlace := ["internal/bytealg.IndexByteString", "slices.overlaps[int]"], unfollowed := true, recurses := true, apart := false }
def FnDecodedSaid : Prop := fnDecodedRow.holds Try.pinned (OpenSpec.ofChange fnDecodedSpec)

/-- ITS FALSE NEIGHBOUR: 'it returns false'. Refute it at one input. -/
def fnDecodedWrong : ChangeSpec := { name := "fnDecoded", fn := fun _ => fun
  | [d] => { results := [.lit (.bool false)], args := [d] }
  | _ => none }
def FnDecodedWrongFalsely : Prop := fnDecodedRow.holds Try.pinned (OpenSpec.ofChange fnDecodedWrong)

/-- 'laws.FnExactAdapt': WHATEVER THE INPUT: true; the input reads as it did. -/
def fnExactAdaptSpec : ChangeSpec := { name := "fnExactAdapt", fn := fun _ => fun
  | [d1, d2, d3] => { results := [.lit (.bool true)], args := [d1, d2, d3] }
  | _ => none }
def fnExactAdaptRow : OpenClaim := { program := "ytdbhhohdfibplaa", sum := "6cc20283a846a77e61b0d13c815cd178ab8642dbe203cfc3329aa7ecd0e4c72d", func := "loop.example/g00191/laws.FnExactAdapt", spec := "fnExactAdapt", apart := false }
def FnExactAdaptSaid : Prop := fnExactAdaptRow.holds Try.pinned (OpenSpec.ofChange fnExactAdaptSpec)

/-- ITS FALSE NEIGHBOUR: 'it returns false'. Refute it at one input. -/
def fnExactAdaptWrong : ChangeSpec := { name := "fnExactAdapt", fn := fun _ => fun
  | [d1, d2, d3] => { results := [.lit (.bool false)], args := [d1, d2, d3] }
  | _ => none }
def FnExactAdaptWrongFalsely : Prop := fnExactAdaptRow.holds Try.pinned (OpenSpec.ofChange fnExactAdaptWrong)

/-- 'laws.FnExactPunyEncode': WHATEVER THE INPUT: true; the input reads as it did. -/
def fnExactPunyEncodeSpec : ChangeSpec := { name := "fnExactPunyEncode", fn := fun _ => fun
  | [d] => { results := [.lit (.bool true)], args := [d] }
  | _ => none }
def fnExactPunyEncodeRow : OpenClaim := { program := "ytdbhhohdfibplaa", sum := "6cc20283a846a77e61b0d13c815cd178ab8642dbe203cfc3329aa7ecd0e4c72d", func := "loop.example/g00191/laws.FnExactPunyEncode", spec := "fnExactPunyEncode", unfollowed := true, recurses := true, apart := false }
def FnExactPunyEncodeSaid : Prop := fnExactPunyEncodeRow.holds Try.pinned (OpenSpec.ofChange fnExactPunyEncodeSpec)

/-- ITS FALSE NEIGHBOUR: 'it returns false'. Refute it at one input. -/
def fnExactPunyEncodeWrong : ChangeSpec := { name := "fnExactPunyEncode", fn := fun _ => fun
  | [d] => { results := [.lit (.bool false)], args := [d] }
  | _ => none }
def FnExactPunyEncodeWrongFalsely : Prop := fnExactPunyEncodeRow.holds Try.pinned (OpenSpec.ofChange fnExactPunyEncodeWrong)

/-- 'laws.FnExactPunyDecode': WHATEVER THE INPUT: true; the input reads as it did. -/
def fnExactPunyDecodeSpec : ChangeSpec := { name := "fnExactPunyDecode", fn := fun _ => fun
  | [d] => { results := [.lit (.bool true)], args := [d] }
  | _ => none }
def fnExactPunyDecodeRow : OpenClaim := { program := "ytdbhhohdfibplaa", sum := "6cc20283a846a77e61b0d13c815cd178ab8642dbe203cfc3329aa7ecd0e4c72d", func := "loop.example/g00191/laws.FnExactPunyDecode", spec := "fnExactPunyDecode", inPlace := ["internal/bytealg.IndexByteString", "slices.overlaps[int]"], unfollowed := true, recurses := true, apart := false }
def FnExactPunyDecodeSaid : Prop := fnExactPunyDecodeRow.holds Try.pinned (OpenSpec.ofChange fnExactPunyDecodeSpec)

/-- ITS FALSE NEIGHBOUR: 'it returns false'. Refute it at one input. -/
def fnExactPunyDecodeWrong : ChangeSpec := { name := "fnExactPunyDecode", fn := fun _ => fun
  | [d] => { results := [.lit (.bool false)], args := [d] }
  | _ => none }
def FnExactPunyDecodeWrongFalsely : Prop := fnExactPunyDecodeRow.holds Try.pinned (OpenSpec.ofChange fnExactPunyDecodeWrong)

/- THE SECOND FORM. 'bulk': how many values and letters a reading holds, each counted each time it is reached (what is shared counts as often as it is met; a slice's spare places count too). A statement '..UptoSaid' is the law's where the arguments, and the package variables that the reading takes, are together of bulk at most 1048576: NARROWER than '..Said'. Prove '..Said' where nothing that the law and all that it calls make is longer than what came in: it says more and counts as full. Else prove '..UptoSaid'. A law counts once. -/
mutual
def uptoBulk {H : Type} : DataW H → Nat
  | .lit (.string bytes) => bytes.length + 1
  | .lit _ => 1
  | .nil => 1
  | .ptr d => uptoBulk d + 1
  | .slice elems spare => uptoBulkAll elems + uptoBulkAll spare + 1
  | .agg parts => uptoBulkAll parts + 1
  | .iface _ d => uptoBulk d + 1
  | .map entries => uptoBulkEntries entries + 1
  | .held _ => 1
def uptoBulkAll {H : Type} : List (DataW H) → Nat
  | [] => 0
  | d :: r => uptoBulk d + uptoBulkAll r
def uptoBulkEntries {H : Type} : List (Lit × DataW H) → Nat
  | [] => 0
  | x :: r => uptoBulkEntry x + uptoBulkEntries r
def uptoBulkEntry {H : Type} : Lit × DataW H → Nat
  | (.string bytes, d) => bytes.length + uptoBulk d + 1
  | (_, d) => uptoBulk d + 1
 end
def uptoSmall : (H : Type) → List (DataW H) → Bool := fun _ ds => decide (uptoBulkAll ds ≤ 1048576)
def OpenSpec.upto (s : _root_.Go.ChangeSpec) : _root_.Go.OpenSpec := { _root_.Go.OpenSpec.ofChange s with cond := some uptoSmall }

/-- 'laws.FnPuny', WHERE WHAT IT READS IS OF BULK AT MOST 1048576: true; the input reads as it did. -/
def fnPunyUptoRow : OpenClaim := { program := "ytdbhhohdfibplaa", sum := "6cc20283a846a77e61b0d13c815cd178ab8642dbe203cfc3329aa7ecd0e4c72d", func := "loop.example/g00191/laws.FnPuny", spec := "fnPuny", inPlace := ["internal/bytealg.IndexByteString", "slices.overlaps[int]"], unfollowed := true, recurses := true, apart := false, narrowed := true }
def FnPunyUptoSaid : Prop := fnPunyUptoRow.holds Try.pinned (OpenSpec.upto fnPunySpec)

/-- 'laws.FnDecoded', WHERE WHAT IT READS IS OF BULK AT MOST 1048576: true; the input reads as it did. -/
def fnDecodedUptoRow : OpenClaim := { program := "ytdbhhohdfibplaa", sum := "6cc20283a846a77e61b0d13c815cd178ab8642dbe203cfc3329aa7ecd0e4c72d", func := "loop.example/g00191/laws.FnDecoded", spec := "fnDecoded", inPlace := ["internal/bytealg.IndexByteString", "slices.overlaps[int]"], unfollowed := true, recurses := true, apart := false, narrowed := true }
def FnDecodedUptoSaid : Prop := fnDecodedUptoRow.holds Try.pinned (OpenSpec.upto fnDecodedSpec)

/-- 'laws.FnExactAdapt', WHERE WHAT IT READS IS OF BULK AT MOST 1048576: true; the input reads as it did. -/
def fnExactAdaptUptoRow : OpenClaim := { program := "ytdbhhohdfibplaa", sum := "6cc20283a846a77e61b0d13c815cd178ab8642dbe203cfc3329aa7ecd0e4c72d", func := "loop.example/g00191/laws.FnExactAdapt", spec := "fnExactAdapt", apart := false, narrowed := true }
def FnExactAdaptUptoSaid : Prop := fnExactAdaptUptoRow.holds Try.pinned (OpenSpec.upto fnExactAdaptSpec)

/-- 'laws.FnExactPunyEncode', WHERE WHAT IT READS IS OF BULK AT MOST 1048576: true; the input reads as it did. -/
def fnExactPunyEncodeUptoRow : OpenClaim := { program := "ytdbhhohdfibplaa", sum := "6cc20283a846a77e61b0d13c815cd178ab8642dbe203cfc3329aa7ecd0e4c72d", func := "loop.example/g00191/laws.FnExactPunyEncode", spec := "fnExactPunyEncode", unfollowed := true, recurses := true, apart := false, narrowed := true }
def FnExactPunyEncodeUptoSaid : Prop := fnExactPunyEncodeUptoRow.holds Try.pinned (OpenSpec.upto fnExactPunyEncodeSpec)

/-- 'laws.FnExactPunyDecode', WHERE WHAT IT READS IS OF BULK AT MOST 1048576: true; the input reads as it did. -/
def fnExactPunyDecodeUptoRow : OpenClaim := { program := "ytdbhhohdfibplaa", sum := "6cc20283a846a77e61b0d13c815cd178ab8642dbe203cfc3329aa7ecd0e4c72d", func := "loop.example/g00191/laws.FnExactPunyDecode", spec := "fnExactPunyDecode", inPlace := ["internal/bytealg.IndexByteString", "slices.overlaps[int]"], unfollowed := true, recurses := true, apart := false, narrowed := true }
def FnExactPunyDecodeUptoSaid : Prop := fnExactPunyDecodeUptoRow.holds Try.pinned (OpenSpec.upto fnExactPunyDecodeSpec)

end Rows
end Go.Proofs.Ytdbhhohdfibplaa
