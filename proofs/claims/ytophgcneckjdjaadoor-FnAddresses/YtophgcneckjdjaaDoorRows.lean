/-
  NARROWER THAN 'FOR EVERY INPUT', by the rows' own cells (each row's printed sentence says how): FnAddresses: laid · FnLoose: laid · FnExactIp4Text: laid · FnExactParseIp4: laid · FnExactIp6Text: laid · FnExactParseIp6: laid.
  DERIVED. THE GIVEN ROWS OF THIS SEAT. 6 by the template 'for every input the law returns true; each argument reads behind the call as it read before'; 0 by the template 'total and deterministic' (their statements: YtophgcneckjdjaaDoorTotals.lean).
  GIVEN WITH THE SEED: the statements are not yours to turn. If you find one false, say at which input.
  Laid BY PROGRAM, IN A SANDBOX (cutbox-rows.mjs): the forced cells as the released guide's own fill.sh prints them over the translation 4c4f0f8facce162e… (all of the seat's roots in one cut). By AI agents, Wed Nov 11 2026. No macro, syntax, notation, axiom, sorry.
-/
import Derived.Test.YtophgcneckjdjaaDoorChecked
import GoSem.Claim
import GoSem.ClaimJoined
import GoSem.ClaimMapViews
import Derived.JoinedTies
import Derived.KernelRfl
namespace Go.Proofs.YtophgcneckjdjaaDoor
/- THE CELL 'sum', in the pinned program and in every row, IS THE sha256 OF THE DUMP (.gsa) THAT YtophgcneckjdjaaDoorProg.lean LOADS. Nothing in Lean hashes anything: it is a label: what it is worth is what the hold of that sum in a sandbox is worth. -/
noncomputable def Tryd.pinned : Pinned := { name := "ytophgcneckjdjaadoor", sum := "4c4f0f8facce162ecf5fa5847350566cc252c2f8ac665b60a44d7b63f5cfaa09", checked := Tryd.checked }
namespace Rows
def none {H : Type} : Left H := { results := [], args := [] }

/- WHAT THE LISTED PACKAGE-LEVEL VARIABLES READ AS WHEN THE CALL BEGINS. Each datum BY PROGRAM (the guide's laid-datum.mjs) off the statement by which the dump's own 'gosem.cut.vars' lays the variable. In a bare row this is a premise. The card (YtophgcneckjdjaaDoorCards.lean) ties it to the program's text. -/
def laid_math_bits_deBruijn32tab {H : Type} : DataW H := .agg [.lit (.int .u8 0), .lit (.int .u8 1), .lit (.int .u8 28), .lit (.int .u8 2), .lit (.int .u8 29), .lit (.int .u8 14), .lit (.int .u8 24), .lit (.int .u8 3), .lit (.int .u8 30), .lit (.int .u8 22), .lit (.int .u8 20), .lit (.int .u8 15), .lit (.int .u8 25), .lit (.int .u8 17), .lit (.int .u8 4), .lit (.int .u8 8), .lit (.int .u8 31), .lit (.int .u8 27), .lit (.int .u8 13), .lit (.int .u8 23), .lit (.int .u8 21), .lit (.int .u8 19), .lit (.int .u8 16), .lit (.int .u8 7), .lit (.int .u8 26), .lit (.int .u8 12), .lit (.int .u8 18), .lit (.int .u8 6), .lit (.int .u8 11), .lit (.int .u8 5), .lit (.int .u8 10), .lit (.int .u8 9)]
def laid_math_bits_deBruijn64tab {H : Type} : DataW H := .agg [.lit (.int .u8 0), .lit (.int .u8 1), .lit (.int .u8 56), .lit (.int .u8 2), .lit (.int .u8 57), .lit (.int .u8 49), .lit (.int .u8 28), .lit (.int .u8 3), .lit (.int .u8 61), .lit (.int .u8 58), .lit (.int .u8 42), .lit (.int .u8 50), .lit (.int .u8 38), .lit (.int .u8 29), .lit (.int .u8 17), .lit (.int .u8 4), .lit (.int .u8 62), .lit (.int .u8 47), .lit (.int .u8 59), .lit (.int .u8 36), .lit (.int .u8 45), .lit (.int .u8 43), .lit (.int .u8 51), .lit (.int .u8 22), .lit (.int .u8 53), .lit (.int .u8 39), .lit (.int .u8 33), .lit (.int .u8 30), .lit (.int .u8 24), .lit (.int .u8 18), .lit (.int .u8 12), .lit (.int .u8 5), .lit (.int .u8 63), .lit (.int .u8 55), .lit (.int .u8 48), .lit (.int .u8 27), .lit (.int .u8 60), .lit (.int .u8 41), .lit (.int .u8 37), .lit (.int .u8 16), .lit (.int .u8 46), .lit (.int .u8 35), .lit (.int .u8 44), .lit (.int .u8 21), .lit (.int .u8 52), .lit (.int .u8 32), .lit (.int .u8 23), .lit (.int .u8 11), .lit (.int .u8 54), .lit (.int .u8 26), .lit (.int .u8 40), .lit (.int .u8 15), .lit (.int .u8 34), .lit (.int .u8 20), .lit (.int .u8 31), .lit (.int .u8 10), .lit (.int .u8 25), .lit (.int .u8 14), .lit (.int .u8 19), .lit (.int .u8 9), .lit (.int .u8 13), .lit (.int .u8 8), .lit (.int .u8 7), .lit (.int .u8 6)]
def laid_internal_strconv_uint64pow10 {H : Type} : DataW H := .agg [.lit (.int .u64 1), .lit (.int .u64 10), .lit (.int .u64 100), .lit (.int .u64 1000), .lit (.int .u64 10000), .lit (.int .u64 100000), .lit (.int .u64 1000000), .lit (.int .u64 10000000), .lit (.int .u64 100000000), .lit (.int .u64 1000000000), .lit (.int .u64 10000000000), .lit (.int .u64 100000000000), .lit (.int .u64 1000000000000), .lit (.int .u64 10000000000000), .lit (.int .u64 100000000000000), .lit (.int .u64 1000000000000000), .lit (.int .u64 10000000000000000), .lit (.int .u64 100000000000000000), .lit (.int .u64 1000000000000000000), .lit (.int .u64 10000000000000000000)]

/-- 'laws.FnAddresses': WHATEVER THE INPUT: true; the input reads as it did. -/
def fnAddressesSpec : ChangeSpec := { name := "fnAddresses", fn := fun _ => fun
  | [d] => { results := [.lit (.bool true)], args := [d] }
  | _ => none }
def fnAddressesRow : OpenClaim := { program := "ytophgcneckjdjaadoor", sum := "4c4f0f8facce162ecf5fa5847350566cc252c2f8ac665b60a44d7b63f5cfaa09", func := "loop.example/g00191/laws.FnAddresses", spec := "fnAddresses", inPlace := ["internal/bytealg.IndexByteString", "internal/bytealg.IndexString"], named := ["internal/strconv.uint64pow10", "math/bits.deBruijn32tab", "math/bits.deBruijn64tab", "internal/bytealg.MaxLen"], apart := false, laid := [("math/bits.deBruijn32tab", laid_math_bits_deBruijn32tab), ("math/bits.deBruijn64tab", laid_math_bits_deBruijn64tab), ("internal/strconv.uint64pow10", laid_internal_strconv_uint64pow10)] }
def FnAddressesSaid : Prop := fnAddressesRow.holds Tryd.pinned (OpenSpec.ofChange fnAddressesSpec)

/-- ITS FALSE NEIGHBOUR: 'it returns false'. Refute it at one input. -/
def fnAddressesWrong : ChangeSpec := { name := "fnAddresses", fn := fun _ => fun
  | [d] => { results := [.lit (.bool false)], args := [d] }
  | _ => none }
def FnAddressesWrongFalsely : Prop := fnAddressesRow.holds Tryd.pinned (OpenSpec.ofChange fnAddressesWrong)

/-- 'laws.FnLoose': WHATEVER THE INPUT: true; the input reads as it did. -/
def fnLooseSpec : ChangeSpec := { name := "fnLoose", fn := fun _ => fun
  | [d] => { results := [.lit (.bool true)], args := [d] }
  | _ => none }
def fnLooseRow : OpenClaim := { program := "ytophgcneckjdjaadoor", sum := "4c4f0f8facce162ecf5fa5847350566cc252c2f8ac665b60a44d7b63f5cfaa09", func := "loop.example/g00191/laws.FnLoose", spec := "fnLoose", recurses := true, named := ["internal/strconv.uint64pow10", "math/bits.deBruijn32tab", "math/bits.deBruijn64tab"], apart := false, laid := [("math/bits.deBruijn32tab", laid_math_bits_deBruijn32tab), ("math/bits.deBruijn64tab", laid_math_bits_deBruijn64tab), ("internal/strconv.uint64pow10", laid_internal_strconv_uint64pow10)] }
def FnLooseSaid : Prop := fnLooseRow.holds Tryd.pinned (OpenSpec.ofChange fnLooseSpec)

/-- ITS FALSE NEIGHBOUR: 'it returns false'. Refute it at one input. -/
def fnLooseWrong : ChangeSpec := { name := "fnLoose", fn := fun _ => fun
  | [d] => { results := [.lit (.bool false)], args := [d] }
  | _ => none }
def FnLooseWrongFalsely : Prop := fnLooseRow.holds Tryd.pinned (OpenSpec.ofChange fnLooseWrong)

/-- 'laws.FnExactIp4Text': WHATEVER THE INPUT: true; the input reads as it did. -/
def fnExactIp4TextSpec : ChangeSpec := { name := "fnExactIp4Text", fn := fun _ => fun
  | [d] => { results := [.lit (.bool true)], args := [d] }
  | _ => none }
def fnExactIp4TextRow : OpenClaim := { program := "ytophgcneckjdjaadoor", sum := "4c4f0f8facce162ecf5fa5847350566cc252c2f8ac665b60a44d7b63f5cfaa09", func := "loop.example/g00191/laws.FnExactIp4Text", spec := "fnExactIp4Text", recurses := true, named := ["internal/strconv.uint64pow10", "math/bits.deBruijn32tab", "math/bits.deBruijn64tab"], apart := false, laid := [("math/bits.deBruijn32tab", laid_math_bits_deBruijn32tab), ("math/bits.deBruijn64tab", laid_math_bits_deBruijn64tab), ("internal/strconv.uint64pow10", laid_internal_strconv_uint64pow10)] }
def FnExactIp4TextSaid : Prop := fnExactIp4TextRow.holds Tryd.pinned (OpenSpec.ofChange fnExactIp4TextSpec)

/-- ITS FALSE NEIGHBOUR: 'it returns false'. Refute it at one input. -/
def fnExactIp4TextWrong : ChangeSpec := { name := "fnExactIp4Text", fn := fun _ => fun
  | [d] => { results := [.lit (.bool false)], args := [d] }
  | _ => none }
def FnExactIp4TextWrongFalsely : Prop := fnExactIp4TextRow.holds Tryd.pinned (OpenSpec.ofChange fnExactIp4TextWrong)

/-- 'laws.FnExactParseIp4': WHATEVER THE INPUT: true; the input reads as it did. -/
def fnExactParseIp4Spec : ChangeSpec := { name := "fnExactParseIp4", fn := fun _ => fun
  | [d] => { results := [.lit (.bool true)], args := [d] }
  | _ => none }
def fnExactParseIp4Row : OpenClaim := { program := "ytophgcneckjdjaadoor", sum := "4c4f0f8facce162ecf5fa5847350566cc252c2f8ac665b60a44d7b63f5cfaa09", func := "loop.example/g00191/laws.FnExactParseIp4", spec := "fnExactParseIp4", named := ["internal/strconv.uint64pow10", "math/bits.deBruijn32tab", "math/bits.deBruijn64tab"], apart := false, laid := [("math/bits.deBruijn32tab", laid_math_bits_deBruijn32tab), ("math/bits.deBruijn64tab", laid_math_bits_deBruijn64tab), ("internal/strconv.uint64pow10", laid_internal_strconv_uint64pow10)] }
def FnExactParseIp4Said : Prop := fnExactParseIp4Row.holds Tryd.pinned (OpenSpec.ofChange fnExactParseIp4Spec)

/-- ITS FALSE NEIGHBOUR: 'it returns false'. Refute it at one input. -/
def fnExactParseIp4Wrong : ChangeSpec := { name := "fnExactParseIp4", fn := fun _ => fun
  | [d] => { results := [.lit (.bool false)], args := [d] }
  | _ => none }
def FnExactParseIp4WrongFalsely : Prop := fnExactParseIp4Row.holds Tryd.pinned (OpenSpec.ofChange fnExactParseIp4Wrong)

/-- 'laws.FnExactIp6Text': WHATEVER THE INPUT: true; the input reads as it did. -/
def fnExactIp6TextSpec : ChangeSpec := { name := "fnExactIp6Text", fn := fun _ => fun
  | [d] => { results := [.lit (.bool true)], args := [d] }
  | _ => none }
def fnExactIp6TextRow : OpenClaim := { program := "ytophgcneckjdjaadoor", sum := "4c4f0f8facce162ecf5fa5847350566cc252c2f8ac665b60a44d7b63f5cfaa09", func := "loop.example/g00191/laws.FnExactIp6Text", spec := "fnExactIp6Text", recurses := true, named := ["internal/strconv.uint64pow10", "math/bits.deBruijn32tab", "math/bits.deBruijn64tab"], apart := false, laid := [("math/bits.deBruijn32tab", laid_math_bits_deBruijn32tab), ("math/bits.deBruijn64tab", laid_math_bits_deBruijn64tab), ("internal/strconv.uint64pow10", laid_internal_strconv_uint64pow10)] }
def FnExactIp6TextSaid : Prop := fnExactIp6TextRow.holds Tryd.pinned (OpenSpec.ofChange fnExactIp6TextSpec)

/-- ITS FALSE NEIGHBOUR: 'it returns false'. Refute it at one input. -/
def fnExactIp6TextWrong : ChangeSpec := { name := "fnExactIp6Text", fn := fun _ => fun
  | [d] => { results := [.lit (.bool false)], args := [d] }
  | _ => none }
def FnExactIp6TextWrongFalsely : Prop := fnExactIp6TextRow.holds Tryd.pinned (OpenSpec.ofChange fnExactIp6TextWrong)

/-- 'laws.FnExactParseIp6': WHATEVER THE INPUT: true; the input reads as it did. -/
def fnExactParseIp6Spec : ChangeSpec := { name := "fnExactParseIp6", fn := fun _ => fun
  | [d] => { results := [.lit (.bool true)], args := [d] }
  | _ => none }
def fnExactParseIp6Row : OpenClaim := { program := "ytophgcneckjdjaadoor", sum := "4c4f0f8facce162ecf5fa5847350566cc252c2f8ac665b60a44d7b63f5cfaa09", func := "loop.example/g00191/laws.FnExactParseIp6", spec := "fnExactParseIp6", inPlace := ["internal/bytealg.IndexByteString", "internal/bytealg.IndexString"], named := ["internal/strconv.uint64pow10", "math/bits.deBruijn32tab", "math/bits.deBruijn64tab", "internal/bytealg.MaxLen"], apart := false, laid := [("math/bits.deBruijn32tab", laid_math_bits_deBruijn32tab), ("math/bits.deBruijn64tab", laid_math_bits_deBruijn64tab), ("internal/strconv.uint64pow10", laid_internal_strconv_uint64pow10)] }
def FnExactParseIp6Said : Prop := fnExactParseIp6Row.holds Tryd.pinned (OpenSpec.ofChange fnExactParseIp6Spec)

/-- ITS FALSE NEIGHBOUR: 'it returns false'. Refute it at one input. -/
def fnExactParseIp6Wrong : ChangeSpec := { name := "fnExactParseIp6", fn := fun _ => fun
  | [d] => { results := [.lit (.bool false)], args := [d] }
  | _ => none }
def FnExactParseIp6WrongFalsely : Prop := fnExactParseIp6Row.holds Tryd.pinned (OpenSpec.ofChange fnExactParseIp6Wrong)

/- THE SECOND FORM. 'bulk': how many values and letters a reading holds, each counted each time it is reached (what is shared counts as often as it is met; a slice's spare places count too). A statement '..UptoSaid' is the law's where the arguments, and the package variables that the reading takes, are together of bulk at most 1048576: NARROWER than '..Said'. Prove '..Said' where nothing that the law and all that it calls make is longer than what came in: it says more and counts as full. Else prove '..UptoSaid'. A law counts once. -/
mutual
def uptoBulk {H : Type} : DataW H → Nat
  | .lit (.string bytes) => bytes.length + 1
  | .lit _ => 1
  | .nil => 1
  | .ptr d => uptoBulk d + 1
  | .slice elems spare => uptoBulkAll elems + uptoBulkAll spare + 1
  | .agg parts => uptoBulkAll parts + 1
  | .iface _ d => uptoBulk d + 1
  | .map entries => uptoBulkEntries entries + 1
  | .held _ => 1
def uptoBulkAll {H : Type} : List (DataW H) → Nat
  | [] => 0
  | d :: r => uptoBulk d + uptoBulkAll r
def uptoBulkEntries {H : Type} : List (Lit × DataW H) → Nat
  | [] => 0
  | x :: r => uptoBulkEntry x + uptoBulkEntries r
def uptoBulkEntry {H : Type} : Lit × DataW H → Nat
  | (.string bytes, d) => bytes.length + uptoBulk d + 1
  | (_, d) => uptoBulk d + 1
 end
def uptoSmall : (H : Type) → List (DataW H) → Bool := fun _ ds => decide (uptoBulkAll ds ≤ 1048576)
def OpenSpec.upto (s : _root_.Go.ChangeSpec) : _root_.Go.OpenSpec := { _root_.Go.OpenSpec.ofChange s with cond := some uptoSmall }

/-- 'laws.FnAddresses', WHERE WHAT IT READS IS OF BULK AT MOST 1048576: true; the input reads as it did. -/
def fnAddressesUptoRow : OpenClaim := { program := "ytophgcneckjdjaadoor", sum := "4c4f0f8facce162ecf5fa5847350566cc252c2f8ac665b60a44d7b63f5cfaa09", func := "loop.example/g00191/laws.FnAddresses", spec := "fnAddresses", inPlace := ["internal/bytealg.IndexByteString", "internal/bytealg.IndexString"], named := ["internal/strconv.uint64pow10", "math/bits.deBruijn32tab", "math/bits.deBruijn64tab", "internal/bytealg.MaxLen"], apart := false, laid := [("math/bits.deBruijn32tab", laid_math_bits_deBruijn32tab), ("math/bits.deBruijn64tab", laid_math_bits_deBruijn64tab), ("internal/strconv.uint64pow10", laid_internal_strconv_uint64pow10)], narrowed := true }
def FnAddressesUptoSaid : Prop := fnAddressesUptoRow.holds Tryd.pinned (OpenSpec.upto fnAddressesSpec)

/-- 'laws.FnLoose', WHERE WHAT IT READS IS OF BULK AT MOST 1048576: true; the input reads as it did. -/
def fnLooseUptoRow : OpenClaim := { program := "ytophgcneckjdjaadoor", sum := "4c4f0f8facce162ecf5fa5847350566cc252c2f8ac665b60a44d7b63f5cfaa09", func := "loop.example/g00191/laws.FnLoose", spec := "fnLoose", recurses := true, named := ["internal/strconv.uint64pow10", "math/bits.deBruijn32tab", "math/bits.deBruijn64tab"], apart := false, laid := [("math/bits.deBruijn32tab", laid_math_bits_deBruijn32tab), ("math/bits.deBruijn64tab", laid_math_bits_deBruijn64tab), ("internal/strconv.uint64pow10", laid_internal_strconv_uint64pow10)], narrowed := true }
def FnLooseUptoSaid : Prop := fnLooseUptoRow.holds Tryd.pinned (OpenSpec.upto fnLooseSpec)

/-- 'laws.FnExactIp4Text', WHERE WHAT IT READS IS OF BULK AT MOST 1048576: true; the input reads as it did. -/
def fnExactIp4TextUptoRow : OpenClaim := { program := "ytophgcneckjdjaadoor", sum := "4c4f0f8facce162ecf5fa5847350566cc252c2f8ac665b60a44d7b63f5cfaa09", func := "loop.example/g00191/laws.FnExactIp4Text", spec := "fnExactIp4Text", recurses := true, named := ["internal/strconv.uint64pow10", "math/bits.deBruijn32tab", "math/bits.deBruijn64tab"], apart := false, laid := [("math/bits.deBruijn32tab", laid_math_bits_deBruijn32tab), ("math/bits.deBruijn64tab", laid_math_bits_deBruijn64tab), ("internal/strconv.uint64pow10", laid_internal_strconv_uint64pow10)], narrowed := true }
def FnExactIp4TextUptoSaid : Prop := fnExactIp4TextUptoRow.holds Tryd.pinned (OpenSpec.upto fnExactIp4TextSpec)

/-- 'laws.FnExactParseIp4', WHERE WHAT IT READS IS OF BULK AT MOST 1048576: true; the input reads as it did. -/
def fnExactParseIp4UptoRow : OpenClaim := { program := "ytophgcneckjdjaadoor", sum := "4c4f0f8facce162ecf5fa5847350566cc252c2f8ac665b60a44d7b63f5cfaa09", func := "loop.example/g00191/laws.FnExactParseIp4", spec := "fnExactParseIp4", named := ["internal/strconv.uint64pow10", "math/bits.deBruijn32tab", "math/bits.deBruijn64tab"], apart := false, laid := [("math/bits.deBruijn32tab", laid_math_bits_deBruijn32tab), ("math/bits.deBruijn64tab", laid_math_bits_deBruijn64tab), ("internal/strconv.uint64pow10", laid_internal_strconv_uint64pow10)], narrowed := true }
def FnExactParseIp4UptoSaid : Prop := fnExactParseIp4UptoRow.holds Tryd.pinned (OpenSpec.upto fnExactParseIp4Spec)

/-- 'laws.FnExactIp6Text', WHERE WHAT IT READS IS OF BULK AT MOST 1048576: true; the input reads as it did. -/
def fnExactIp6TextUptoRow : OpenClaim := { program := "ytophgcneckjdjaadoor", sum := "4c4f0f8facce162ecf5fa5847350566cc252c2f8ac665b60a44d7b63f5cfaa09", func := "loop.example/g00191/laws.FnExactIp6Text", spec := "fnExactIp6Text", recurses := true, named := ["internal/strconv.uint64pow10", "math/bits.deBruijn32tab", "math/bits.deBruijn64tab"], apart := false, laid := [("math/bits.deBruijn32tab", laid_math_bits_deBruijn32tab), ("math/bits.deBruijn64tab", laid_math_bits_deBruijn64tab), ("internal/strconv.uint64pow10", laid_internal_strconv_uint64pow10)], narrowed := true }
def FnExactIp6TextUptoSaid : Prop := fnExactIp6TextUptoRow.holds Tryd.pinned (OpenSpec.upto fnExactIp6TextSpec)

/-- 'laws.FnExactParseIp6', WHERE WHAT IT READS IS OF BULK AT MOST 1048576: true; the input reads as it did. -/
def fnExactParseIp6UptoRow : OpenClaim := { program := "ytophgcneckjdjaadoor", sum := "4c4f0f8facce162ecf5fa5847350566cc252c2f8ac665b60a44d7b63f5cfaa09", func := "loop.example/g00191/laws.FnExactParseIp6", spec := "fnExactParseIp6", inPlace := ["internal/bytealg.IndexByteString", "internal/bytealg.IndexString"], named := ["internal/strconv.uint64pow10", "math/bits.deBruijn32tab", "math/bits.deBruijn64tab", "internal/bytealg.MaxLen"], apart := false, laid := [("math/bits.deBruijn32tab", laid_math_bits_deBruijn32tab), ("math/bits.deBruijn64tab", laid_math_bits_deBruijn64tab), ("internal/strconv.uint64pow10", laid_internal_strconv_uint64pow10)], narrowed := true }
def FnExactParseIp6UptoSaid : Prop := fnExactParseIp6UptoRow.holds Tryd.pinned (OpenSpec.upto fnExactParseIp6Spec)

end Rows
end Go.Proofs.YtophgcneckjdjaaDoor
