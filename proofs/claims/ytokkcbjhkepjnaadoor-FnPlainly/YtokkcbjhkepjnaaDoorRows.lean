/-
  NARROWER THAN 'FOR EVERY INPUT', by the rows' own cells (each row's printed sentence says how): FnRunes: laid · FnTexts: laid · FnPercent: laid · FnPlainly: laid · FnExactTrim: laid · FnExactRunes: laid · FnExactKeeps: laid · FnExactPercent: laid · FnExactPercentOk: laid · FnExactPlainly: laid.
  DERIVED. THE GIVEN ROWS OF THIS SEAT. 10 by the template 'for every input the law returns true; each argument reads behind the call as it read before'; 0 by the template 'total and deterministic' (their statements: YtokkcbjhkepjnaaDoorTotals.lean).
  GIVEN WITH THE SEED: the statements are not yours to turn. If you find one false, say at which input.
  Laid BY PROGRAM, IN A SANDBOX (cutbox-rows.mjs): the forced cells as the released guide's own fill.sh prints them over the translation 495f59d6a024f6a8… (all of the seat's roots in one cut). By AI agents, Wed Nov 11 2026. No macro, syntax, notation, axiom, sorry.
-/
import Derived.Test.YtokkcbjhkepjnaaDoorChecked
import GoSem.PinnedTables
import GoSem.Claim
import GoSem.ClaimJoined
import GoSem.ClaimMapViews
import Derived.JoinedTies
import Derived.KernelRfl
namespace Go.Proofs.YtokkcbjhkepjnaaDoor
/- THE CELL 'sum', in the pinned program and in every row, IS THE sha256 OF THE DUMP (.gsa) THAT YtokkcbjhkepjnaaDoorProg.lean LOADS. Nothing in Lean hashes anything: it is a label: what it is worth is what the hold of that sum in a sandbox is worth. -/
noncomputable def Tryd.pinned : Pinned := { name := "ytokkcbjhkepjnaadoor", sum := "495f59d6a024f6a81ad4b4d5964d27003d5d5584aa47fce2cce813c6c2b4a6d0", checked := Tryd.checked }
namespace Rows
def none {H : Type} : Left H := { results := [], args := [] }

/- WHAT THE LISTED PACKAGE-LEVEL VARIABLES READ AS WHEN THE CALL BEGINS. Each datum BY PROGRAM (the guide's laid-datum.mjs) off the statement by which the dump's own 'gosem.cut.vars' lays the variable. In a bare row this is a premise. The card (YtokkcbjhkepjnaaDoorCards.lean) ties it to the program's text. -/
def laid_unicode_utf8_acceptRanges {H : Type} : DataW H := .agg [.agg [.lit (.int .u8 128), .lit (.int .u8 191)], .agg [.lit (.int .u8 160), .lit (.int .u8 191)], .agg [.lit (.int .u8 128), .lit (.int .u8 159)], .agg [.lit (.int .u8 144), .lit (.int .u8 191)], .agg [.lit (.int .u8 128), .lit (.int .u8 143)], .agg [.lit (.int .u8 0), .lit (.int .u8 0)], .agg [.lit (.int .u8 0), .lit (.int .u8 0)], .agg [.lit (.int .u8 0), .lit (.int .u8 0)], .agg [.lit (.int .u8 0), .lit (.int .u8 0)], .agg [.lit (.int .u8 0), .lit (.int .u8 0)], .agg [.lit (.int .u8 0), .lit (.int .u8 0)], .agg [.lit (.int .u8 0), .lit (.int .u8 0)], .agg [.lit (.int .u8 0), .lit (.int .u8 0)], .agg [.lit (.int .u8 0), .lit (.int .u8 0)], .agg [.lit (.int .u8 0), .lit (.int .u8 0)], .agg [.lit (.int .u8 0), .lit (.int .u8 0)]]
/-- One of Go's own tables, pinned by name: the form's constant. -/
def laid_unicode_utf8_first : DataW Unit := Go.Pinned.utf8First
def laid_loop_example_g00191_impl_plainMarks {H : Type} : DataW H := .agg [.lit (.bool false), .lit (.bool false), .lit (.bool false), .lit (.bool false), .lit (.bool false), .lit (.bool false), .lit (.bool false), .lit (.bool false), .lit (.bool false), .lit (.bool false), .lit (.bool false), .lit (.bool false), .lit (.bool false), .lit (.bool false), .lit (.bool false), .lit (.bool false), .lit (.bool false), .lit (.bool false), .lit (.bool false), .lit (.bool false), .lit (.bool false), .lit (.bool false), .lit (.bool false), .lit (.bool false), .lit (.bool false), .lit (.bool false), .lit (.bool false), .lit (.bool false), .lit (.bool false), .lit (.bool false), .lit (.bool false), .lit (.bool false), .lit (.bool false), .lit (.bool false), .lit (.bool false), .lit (.bool false), .lit (.bool false), .lit (.bool false), .lit (.bool false), .lit (.bool false), .lit (.bool false), .lit (.bool false), .lit (.bool false), .lit (.bool false), .lit (.bool false), .lit (.bool true), .lit (.bool true), .lit (.bool false), .lit (.bool false), .lit (.bool false), .lit (.bool false), .lit (.bool false), .lit (.bool false), .lit (.bool false), .lit (.bool false), .lit (.bool false), .lit (.bool false), .lit (.bool false), .lit (.bool false), .lit (.bool false), .lit (.bool false), .lit (.bool false), .lit (.bool false), .lit (.bool false), .lit (.bool false), .lit (.bool false), .lit (.bool false), .lit (.bool false), .lit (.bool false), .lit (.bool false), .lit (.bool false), .lit (.bool false), .lit (.bool false), .lit (.bool false), .lit (.bool false), .lit (.bool false), .lit (.bool false), .lit (.bool false), .lit (.bool false), .lit (.bool false), .lit (.bool false), .lit (.bool false), .lit (.bool false), .lit (.bool false), .lit (.bool false), .lit (.bool false), .lit (.bool false), .lit (.bool false), .lit (.bool false), .lit (.bool false), .lit (.bool false), .lit (.bool false), .lit (.bool false), .lit (.bool false), .lit (.bool false), .lit (.bool true), .lit (.bool false), .lit (.bool false), .lit (.bool false), .lit (.bool false), .lit (.bool false), .lit (.bool false), .lit (.bool false), .lit (.bool false), .lit (.bool false), .lit (.bool false), .lit (.bool false), .lit (.bool false), .lit (.bool false), .lit (.bool false), .lit (.bool false), .lit (.bool false), .lit (.bool false), .lit (.bool false), .lit (.bool false), .lit (.bool false), .lit (.bool false), .lit (.bool false), .lit (.bool false), .lit (.bool false), .lit (.bool false), .lit (.bool false), .lit (.bool false), .lit (.bool false), .lit (.bool false), .lit (.bool false), .lit (.bool true), .lit (.bool false)]
def laid_loop_example_g00191_impl_keptMarks {H : Type} : DataW H := .agg [.lit (.bool false), .lit (.bool false), .lit (.bool false), .lit (.bool false), .lit (.bool false), .lit (.bool false), .lit (.bool false), .lit (.bool false), .lit (.bool false), .lit (.bool false), .lit (.bool false), .lit (.bool false), .lit (.bool false), .lit (.bool false), .lit (.bool false), .lit (.bool false), .lit (.bool false), .lit (.bool false), .lit (.bool false), .lit (.bool false), .lit (.bool false), .lit (.bool false), .lit (.bool false), .lit (.bool false), .lit (.bool false), .lit (.bool false), .lit (.bool false), .lit (.bool false), .lit (.bool false), .lit (.bool false), .lit (.bool false), .lit (.bool false), .lit (.bool false), .lit (.bool true), .lit (.bool false), .lit (.bool false), .lit (.bool true), .lit (.bool false), .lit (.bool true), .lit (.bool true), .lit (.bool true), .lit (.bool true), .lit (.bool true), .lit (.bool true), .lit (.bool true), .lit (.bool false), .lit (.bool false), .lit (.bool false), .lit (.bool false), .lit (.bool false), .lit (.bool false), .lit (.bool false), .lit (.bool false), .lit (.bool false), .lit (.bool false), .lit (.bool false), .lit (.bool false), .lit (.bool false), .lit (.bool true), .lit (.bool true), .lit (.bool false), .lit (.bool true), .lit (.bool false), .lit (.bool false), .lit (.bool true), .lit (.bool false), .lit (.bool false), .lit (.bool false), .lit (.bool false), .lit (.bool false), .lit (.bool false), .lit (.bool false), .lit (.bool false), .lit (.bool false), .lit (.bool false), .lit (.bool false), .lit (.bool false), .lit (.bool false), .lit (.bool false), .lit (.bool false), .lit (.bool false), .lit (.bool false), .lit (.bool false), .lit (.bool false), .lit (.bool false), .lit (.bool false), .lit (.bool false), .lit (.bool false), .lit (.bool false), .lit (.bool false), .lit (.bool false), .lit (.bool false), .lit (.bool false), .lit (.bool false), .lit (.bool false), .lit (.bool false), .lit (.bool false), .lit (.bool false), .lit (.bool false), .lit (.bool false), .lit (.bool false), .lit (.bool false), .lit (.bool false), .lit (.bool false), .lit (.bool false), .lit (.bool false), .lit (.bool false), .lit (.bool false), .lit (.bool false), .lit (.bool false), .lit (.bool false), .lit (.bool false), .lit (.bool false), .lit (.bool false), .lit (.bool false), .lit (.bool false), .lit (.bool false), .lit (.bool false), .lit (.bool false), .lit (.bool false), .lit (.bool false), .lit (.bool false), .lit (.bool false), .lit (.bool false), .lit (.bool false), .lit (.bool false), .lit (.bool false), .lit (.bool false)]

/-- 'laws.FnRunes': WHATEVER THE INPUT: true; the input reads as it did. -/
def fnRunesSpec : ChangeSpec := { name := "fnRunes", fn := fun _ => fun
  | [d] => { results := [.lit (.bool true)], args := [d] }
  | _ => none }
def fnRunesRow : OpenClaim := { program := "ytokkcbjhkepjnaadoor", sum := "495f59d6a024f6a81ad4b4d5964d27003d5d5584aa47fce2cce813c6c2b4a6d0", func := "loop.example/g00191/laws.FnRunes", spec := "fnRunes", named := ["unicode/utf8.first", "unicode/utf8.acceptRanges"], apart := false, laid := [("unicode/utf8.acceptRanges", laid_unicode_utf8_acceptRanges), ("unicode/utf8.first", laid_unicode_utf8_first)] }
def FnRunesSaid : Prop := fnRunesRow.holds Tryd.pinned (OpenSpec.ofChange fnRunesSpec)

/-- ITS FALSE NEIGHBOUR: 'it returns false'. Refute it at one input. -/
def fnRunesWrong : ChangeSpec := { name := "fnRunes", fn := fun _ => fun
  | [d] => { results := [.lit (.bool false)], args := [d] }
  | _ => none }
def FnRunesWrongFalsely : Prop := fnRunesRow.holds Tryd.pinned (OpenSpec.ofChange fnRunesWrong)

/-- 'laws.FnTexts': WHATEVER THE INPUT: true; the input reads as it did. -/
def fnTextsSpec : ChangeSpec := { name := "fnTexts", fn := fun _ => fun
  | [d] => { results := [.lit (.bool true)], args := [d] }
  | _ => none }
def fnTextsRow : OpenClaim := { program := "ytokkcbjhkepjnaadoor", sum := "495f59d6a024f6a81ad4b4d5964d27003d5d5584aa47fce2cce813c6c2b4a6d0", func := "loop.example/g00191/laws.FnTexts", spec := "fnTexts", inPlace := ["internal/bytealg.IndexByteString", "internal/bytealg.IndexString"], named := ["unicode/utf8.first", "unicode/utf8.acceptRanges", "internal/bytealg.MaxLen"], apart := false, laid := [("unicode/utf8.acceptRanges", laid_unicode_utf8_acceptRanges), ("unicode/utf8.first", laid_unicode_utf8_first)] }
def FnTextsSaid : Prop := fnTextsRow.holds Tryd.pinned (OpenSpec.ofChange fnTextsSpec)

/-- ITS FALSE NEIGHBOUR: 'it returns false'. Refute it at one input. -/
def fnTextsWrong : ChangeSpec := { name := "fnTexts", fn := fun _ => fun
  | [d] => { results := [.lit (.bool false)], args := [d] }
  | _ => none }
def FnTextsWrongFalsely : Prop := fnTextsRow.holds Tryd.pinned (OpenSpec.ofChange fnTextsWrong)

/-- 'laws.FnPercent': WHATEVER THE INPUT: true; the input reads as it did. -/
def fnPercentSpec : ChangeSpec := { name := "fnPercent", vars := ["loop.example/g00191/impl.keptMarks", "loop.example/g00191/impl.plainMarks"], fn := fun _ => fun
  | [d, g1, g2] => { results := [.lit (.bool true)], args := [d], vars := [g1, g2] }
  | _ => none }
def fnPercentRow : OpenClaim := { program := "ytokkcbjhkepjnaadoor", sum := "495f59d6a024f6a81ad4b4d5964d27003d5d5584aa47fce2cce813c6c2b4a6d0", func := "loop.example/g00191/laws.FnPercent", spec := "fnPercent", named := ["loop.example/g00191/impl.keptMarks", "loop.example/g00191/impl.plainMarks"], apart := false, laid := [("loop.example/g00191/impl.plainMarks", laid_loop_example_g00191_impl_plainMarks), ("loop.example/g00191/impl.keptMarks", laid_loop_example_g00191_impl_keptMarks)] }
def FnPercentSaid : Prop := fnPercentRow.holds Tryd.pinned (OpenSpec.ofChange fnPercentSpec)

/-- ITS FALSE NEIGHBOUR: 'it returns false'. Refute it at one input. -/
def fnPercentWrong : ChangeSpec := { name := "fnPercent", vars := ["loop.example/g00191/impl.keptMarks", "loop.example/g00191/impl.plainMarks"], fn := fun _ => fun
  | [d, g1, g2] => { results := [.lit (.bool false)], args := [d], vars := [g1, g2] }
  | _ => none }
def FnPercentWrongFalsely : Prop := fnPercentRow.holds Tryd.pinned (OpenSpec.ofChange fnPercentWrong)

/-- 'laws.FnPlainly': WHATEVER THE INPUT: true; the input reads as it did. -/
def fnPlainlySpec : ChangeSpec := { name := "fnPlainly", vars := ["loop.example/g00191/impl.keptMarks", "loop.example/g00191/impl.plainMarks"], fn := fun _ => fun
  | [d, g1, g2] => { results := [.lit (.bool true)], args := [d], vars := [g1, g2] }
  | _ => none }
def fnPlainlyRow : OpenClaim := { program := "ytokkcbjhkepjnaadoor", sum := "495f59d6a024f6a81ad4b4d5964d27003d5d5584aa47fce2cce813c6c2b4a6d0", func := "loop.example/g00191/laws.FnPlainly", spec := "fnPlainly", named := ["loop.example/g00191/impl.keptMarks", "loop.example/g00191/impl.plainMarks"], apart := false, laid := [("loop.example/g00191/impl.plainMarks", laid_loop_example_g00191_impl_plainMarks), ("loop.example/g00191/impl.keptMarks", laid_loop_example_g00191_impl_keptMarks)] }
def FnPlainlySaid : Prop := fnPlainlyRow.holds Tryd.pinned (OpenSpec.ofChange fnPlainlySpec)

/-- ITS FALSE NEIGHBOUR: 'it returns false'. Refute it at one input. -/
def fnPlainlyWrong : ChangeSpec := { name := "fnPlainly", vars := ["loop.example/g00191/impl.keptMarks", "loop.example/g00191/impl.plainMarks"], fn := fun _ => fun
  | [d, g1, g2] => { results := [.lit (.bool false)], args := [d], vars := [g1, g2] }
  | _ => none }
def FnPlainlyWrongFalsely : Prop := fnPlainlyRow.holds Tryd.pinned (OpenSpec.ofChange fnPlainlyWrong)

/-- 'laws.FnExactTrim': WHATEVER THE INPUT: true; the input reads as it did. -/
def fnExactTrimSpec : ChangeSpec := { name := "fnExactTrim", fn := fun _ => fun
  | [d] => { results := [.lit (.bool true)], args := [d] }
  | _ => none }
def fnExactTrimRow : OpenClaim := { program := "ytokkcbjhkepjnaadoor", sum := "495f59d6a024f6a81ad4b4d5964d27003d5d5584aa47fce2cce813c6c2b4a6d0", func := "loop.example/g00191/laws.FnExactTrim", spec := "fnExactTrim", inPlace := ["internal/bytealg.IndexByteString", "internal/bytealg.IndexString"], named := ["unicode/utf8.first", "unicode/utf8.acceptRanges", "internal/bytealg.MaxLen"], apart := false, laid := [("unicode/utf8.acceptRanges", laid_unicode_utf8_acceptRanges), ("unicode/utf8.first", laid_unicode_utf8_first)] }
def FnExactTrimSaid : Prop := fnExactTrimRow.holds Tryd.pinned (OpenSpec.ofChange fnExactTrimSpec)

/-- ITS FALSE NEIGHBOUR: 'it returns false'. Refute it at one input. -/
def fnExactTrimWrong : ChangeSpec := { name := "fnExactTrim", fn := fun _ => fun
  | [d] => { results := [.lit (.bool false)], args := [d] }
  | _ => none }
def FnExactTrimWrongFalsely : Prop := fnExactTrimRow.holds Tryd.pinned (OpenSpec.ofChange fnExactTrimWrong)

/-- 'laws.FnExactRunes': WHATEVER THE INPUT: true; the input reads as it did. -/
def fnExactRunesSpec : ChangeSpec := { name := "fnExactRunes", fn := fun _ => fun
  | [d] => { results := [.lit (.bool true)], args := [d] }
  | _ => none }
def fnExactRunesRow : OpenClaim := { program := "ytokkcbjhkepjnaadoor", sum := "495f59d6a024f6a81ad4b4d5964d27003d5d5584aa47fce2cce813c6c2b4a6d0", func := "loop.example/g00191/laws.FnExactRunes", spec := "fnExactRunes", named := ["unicode/utf8.first", "unicode/utf8.acceptRanges"], apart := false, laid := [("unicode/utf8.acceptRanges", laid_unicode_utf8_acceptRanges), ("unicode/utf8.first", laid_unicode_utf8_first)] }
def FnExactRunesSaid : Prop := fnExactRunesRow.holds Tryd.pinned (OpenSpec.ofChange fnExactRunesSpec)

/-- ITS FALSE NEIGHBOUR: 'it returns false'. Refute it at one input. -/
def fnExactRunesWrong : ChangeSpec := { name := "fnExactRunes", fn := fun _ => fun
  | [d] => { results := [.lit (.bool false)], args := [d] }
  | _ => none }
def FnExactRunesWrongFalsely : Prop := fnExactRunesRow.holds Tryd.pinned (OpenSpec.ofChange fnExactRunesWrong)

/-- 'laws.FnExactKeeps': WHATEVER THE INPUT: true; the input reads as it did. -/
def fnExactKeepsSpec : ChangeSpec := { name := "fnExactKeeps", vars := ["loop.example/g00191/impl.keptMarks", "loop.example/g00191/impl.plainMarks"], fn := fun _ => fun
  | [d1, d2, g1, g2] => { results := [.lit (.bool true)], args := [d1, d2], vars := [g1, g2] }
  | _ => none }
def fnExactKeepsRow : OpenClaim := { program := "ytokkcbjhkepjnaadoor", sum := "495f59d6a024f6a81ad4b4d5964d27003d5d5584aa47fce2cce813c6c2b4a6d0", func := "loop.example/g00191/laws.FnExactKeeps", spec := "fnExactKeeps", named := ["loop.example/g00191/impl.keptMarks", "loop.example/g00191/impl.plainMarks"], apart := false, laid := [("loop.example/g00191/impl.plainMarks", laid_loop_example_g00191_impl_plainMarks), ("loop.example/g00191/impl.keptMarks", laid_loop_example_g00191_impl_keptMarks)] }
def FnExactKeepsSaid : Prop := fnExactKeepsRow.holds Tryd.pinned (OpenSpec.ofChange fnExactKeepsSpec)

/-- ITS FALSE NEIGHBOUR: 'it returns false'. Refute it at one input. -/
def fnExactKeepsWrong : ChangeSpec := { name := "fnExactKeeps", vars := ["loop.example/g00191/impl.keptMarks", "loop.example/g00191/impl.plainMarks"], fn := fun _ => fun
  | [d1, d2, g1, g2] => { results := [.lit (.bool false)], args := [d1, d2], vars := [g1, g2] }
  | _ => none }
def FnExactKeepsWrongFalsely : Prop := fnExactKeepsRow.holds Tryd.pinned (OpenSpec.ofChange fnExactKeepsWrong)

/-- 'laws.FnExactPercent': WHATEVER THE INPUT: true; the input reads as it did. -/
def fnExactPercentSpec : ChangeSpec := { name := "fnExactPercent", vars := ["loop.example/g00191/impl.keptMarks", "loop.example/g00191/impl.plainMarks"], fn := fun _ => fun
  | [d1, d2, g1, g2] => { results := [.lit (.bool true)], args := [d1, d2], vars := [g1, g2] }
  | _ => none }
def fnExactPercentRow : OpenClaim := { program := "ytokkcbjhkepjnaadoor", sum := "495f59d6a024f6a81ad4b4d5964d27003d5d5584aa47fce2cce813c6c2b4a6d0", func := "loop.example/g00191/laws.FnExactPercent", spec := "fnExactPercent", named := ["loop.example/g00191/impl.keptMarks", "loop.example/g00191/impl.plainMarks"], apart := false, laid := [("loop.example/g00191/impl.plainMarks", laid_loop_example_g00191_impl_plainMarks), ("loop.example/g00191/impl.keptMarks", laid_loop_example_g00191_impl_keptMarks)] }
def FnExactPercentSaid : Prop := fnExactPercentRow.holds Tryd.pinned (OpenSpec.ofChange fnExactPercentSpec)

/-- ITS FALSE NEIGHBOUR: 'it returns false'. Refute it at one input. -/
def fnExactPercentWrong : ChangeSpec := { name := "fnExactPercent", vars := ["loop.example/g00191/impl.keptMarks", "loop.example/g00191/impl.plainMarks"], fn := fun _ => fun
  | [d1, d2, g1, g2] => { results := [.lit (.bool false)], args := [d1, d2], vars := [g1, g2] }
  | _ => none }
def FnExactPercentWrongFalsely : Prop := fnExactPercentRow.holds Tryd.pinned (OpenSpec.ofChange fnExactPercentWrong)

/-- 'laws.FnExactPercentOk': WHATEVER THE INPUT: true; the input reads as it did. -/
def fnExactPercentOkSpec : ChangeSpec := { name := "fnExactPercentOk", vars := ["loop.example/g00191/impl.keptMarks", "loop.example/g00191/impl.plainMarks"], fn := fun _ => fun
  | [d1, d2, g1, g2] => { results := [.lit (.bool true)], args := [d1, d2], vars := [g1, g2] }
  | _ => none }
def fnExactPercentOkRow : OpenClaim := { program := "ytokkcbjhkepjnaadoor", sum := "495f59d6a024f6a81ad4b4d5964d27003d5d5584aa47fce2cce813c6c2b4a6d0", func := "loop.example/g00191/laws.FnExactPercentOk", spec := "fnExactPercentOk", named := ["loop.example/g00191/impl.keptMarks", "loop.example/g00191/impl.plainMarks"], apart := false, laid := [("loop.example/g00191/impl.plainMarks", laid_loop_example_g00191_impl_plainMarks), ("loop.example/g00191/impl.keptMarks", laid_loop_example_g00191_impl_keptMarks)] }
def FnExactPercentOkSaid : Prop := fnExactPercentOkRow.holds Tryd.pinned (OpenSpec.ofChange fnExactPercentOkSpec)

/-- ITS FALSE NEIGHBOUR: 'it returns false'. Refute it at one input. -/
def fnExactPercentOkWrong : ChangeSpec := { name := "fnExactPercentOk", vars := ["loop.example/g00191/impl.keptMarks", "loop.example/g00191/impl.plainMarks"], fn := fun _ => fun
  | [d1, d2, g1, g2] => { results := [.lit (.bool false)], args := [d1, d2], vars := [g1, g2] }
  | _ => none }
def FnExactPercentOkWrongFalsely : Prop := fnExactPercentOkRow.holds Tryd.pinned (OpenSpec.ofChange fnExactPercentOkWrong)

/-- 'laws.FnExactPlainly': WHATEVER THE INPUT: true; the input reads as it did. -/
def fnExactPlainlySpec : ChangeSpec := { name := "fnExactPlainly", vars := ["loop.example/g00191/impl.keptMarks", "loop.example/g00191/impl.plainMarks"], fn := fun _ => fun
  | [d1, d2, g1, g2] => { results := [.lit (.bool true)], args := [d1, d2], vars := [g1, g2] }
  | _ => none }
def fnExactPlainlyRow : OpenClaim := { program := "ytokkcbjhkepjnaadoor", sum := "495f59d6a024f6a81ad4b4d5964d27003d5d5584aa47fce2cce813c6c2b4a6d0", func := "loop.example/g00191/laws.FnExactPlainly", spec := "fnExactPlainly", named := ["loop.example/g00191/impl.keptMarks", "loop.example/g00191/impl.plainMarks"], apart := false, laid := [("loop.example/g00191/impl.plainMarks", laid_loop_example_g00191_impl_plainMarks), ("loop.example/g00191/impl.keptMarks", laid_loop_example_g00191_impl_keptMarks)] }
def FnExactPlainlySaid : Prop := fnExactPlainlyRow.holds Tryd.pinned (OpenSpec.ofChange fnExactPlainlySpec)

/-- ITS FALSE NEIGHBOUR: 'it returns false'. Refute it at one input. -/
def fnExactPlainlyWrong : ChangeSpec := { name := "fnExactPlainly", vars := ["loop.example/g00191/impl.keptMarks", "loop.example/g00191/impl.plainMarks"], fn := fun _ => fun
  | [d1, d2, g1, g2] => { results := [.lit (.bool false)], args := [d1, d2], vars := [g1, g2] }
  | _ => none }
def FnExactPlainlyWrongFalsely : Prop := fnExactPlainlyRow.holds Tryd.pinned (OpenSpec.ofChange fnExactPlainlyWrong)

/- THE SECOND FORM. 'bulk': how many values and letters a reading holds, each counted each time it is reached (what is shared counts as often as it is met; a slice's spare places count too). A statement '..UptoSaid' is the law's where the arguments, and the package variables that the reading takes, are together of bulk at most 1048576: NARROWER than '..Said'. Prove '..Said' where nothing that the law and all that it calls make is longer than what came in: it says more and counts as full. Else prove '..UptoSaid'. A law counts once. -/
mutual
def uptoBulk {H : Type} : DataW H → Nat
  | .lit (.string bytes) => bytes.length + 1
  | .lit _ => 1
  | .nil => 1
  | .ptr d => uptoBulk d + 1
  | .slice elems spare => uptoBulkAll elems + uptoBulkAll spare + 1
  | .agg parts => uptoBulkAll parts + 1
  | .iface _ d => uptoBulk d + 1
  | .map entries => uptoBulkEntries entries + 1
  | .held _ => 1
def uptoBulkAll {H : Type} : List (DataW H) → Nat
  | [] => 0
  | d :: r => uptoBulk d + uptoBulkAll r
def uptoBulkEntries {H : Type} : List (Lit × DataW H) → Nat
  | [] => 0
  | x :: r => uptoBulkEntry x + uptoBulkEntries r
def uptoBulkEntry {H : Type} : Lit × DataW H → Nat
  | (.string bytes, d) => bytes.length + uptoBulk d + 1
  | (_, d) => uptoBulk d + 1
 end
def uptoSmall : (H : Type) → List (DataW H) → Bool := fun _ ds => decide (uptoBulkAll ds ≤ 1048576)
def OpenSpec.upto (s : _root_.Go.ChangeSpec) : _root_.Go.OpenSpec := { _root_.Go.OpenSpec.ofChange s with cond := some uptoSmall }

/-- 'laws.FnRunes', WHERE WHAT IT READS IS OF BULK AT MOST 1048576: true; the input reads as it did. -/
def fnRunesUptoRow : OpenClaim := { program := "ytokkcbjhkepjnaadoor", sum := "495f59d6a024f6a81ad4b4d5964d27003d5d5584aa47fce2cce813c6c2b4a6d0", func := "loop.example/g00191/laws.FnRunes", spec := "fnRunes", named := ["unicode/utf8.first", "unicode/utf8.acceptRanges"], apart := false, laid := [("unicode/utf8.acceptRanges", laid_unicode_utf8_acceptRanges), ("unicode/utf8.first", laid_unicode_utf8_first)], narrowed := true }
def FnRunesUptoSaid : Prop := fnRunesUptoRow.holds Tryd.pinned (OpenSpec.upto fnRunesSpec)

/-- 'laws.FnTexts', WHERE WHAT IT READS IS OF BULK AT MOST 1048576: true; the input reads as it did. -/
def fnTextsUptoRow : OpenClaim := { program := "ytokkcbjhkepjnaadoor", sum := "495f59d6a024f6a81ad4b4d5964d27003d5d5584aa47fce2cce813c6c2b4a6d0", func := "loop.example/g00191/laws.FnTexts", spec := "fnTexts", inPlace := ["internal/bytealg.IndexByteString", "internal/bytealg.IndexString"], named := ["unicode/utf8.first", "unicode/utf8.acceptRanges", "internal/bytealg.MaxLen"], apart := false, laid := [("unicode/utf8.acceptRanges", laid_unicode_utf8_acceptRanges), ("unicode/utf8.first", laid_unicode_utf8_first)], narrowed := true }
def FnTextsUptoSaid : Prop := fnTextsUptoRow.holds Tryd.pinned (OpenSpec.upto fnTextsSpec)

/-- 'laws.FnPercent', WHERE WHAT IT READS IS OF BULK AT MOST 1048576: true; the input reads as it did. -/
def fnPercentUptoRow : OpenClaim := { program := "ytokkcbjhkepjnaadoor", sum := "495f59d6a024f6a81ad4b4d5964d27003d5d5584aa47fce2cce813c6c2b4a6d0", func := "loop.example/g00191/laws.FnPercent", spec := "fnPercent", named := ["loop.example/g00191/impl.keptMarks", "loop.example/g00191/impl.plainMarks"], apart := false, laid := [("loop.example/g00191/impl.plainMarks", laid_loop_example_g00191_impl_plainMarks), ("loop.example/g00191/impl.keptMarks", laid_loop_example_g00191_impl_keptMarks)], narrowed := true }
def FnPercentUptoSaid : Prop := fnPercentUptoRow.holds Tryd.pinned (OpenSpec.upto fnPercentSpec)

/-- 'laws.FnPlainly', WHERE WHAT IT READS IS OF BULK AT MOST 1048576: true; the input reads as it did. -/
def fnPlainlyUptoRow : OpenClaim := { program := "ytokkcbjhkepjnaadoor", sum := "495f59d6a024f6a81ad4b4d5964d27003d5d5584aa47fce2cce813c6c2b4a6d0", func := "loop.example/g00191/laws.FnPlainly", spec := "fnPlainly", named := ["loop.example/g00191/impl.keptMarks", "loop.example/g00191/impl.plainMarks"], apart := false, laid := [("loop.example/g00191/impl.plainMarks", laid_loop_example_g00191_impl_plainMarks), ("loop.example/g00191/impl.keptMarks", laid_loop_example_g00191_impl_keptMarks)], narrowed := true }
def FnPlainlyUptoSaid : Prop := fnPlainlyUptoRow.holds Tryd.pinned (OpenSpec.upto fnPlainlySpec)

/-- 'laws.FnExactTrim', WHERE WHAT IT READS IS OF BULK AT MOST 1048576: true; the input reads as it did. -/
def fnExactTrimUptoRow : OpenClaim := { program := "ytokkcbjhkepjnaadoor", sum := "495f59d6a024f6a81ad4b4d5964d27003d5d5584aa47fce2cce813c6c2b4a6d0", func := "loop.example/g00191/laws.FnExactTrim", spec := "fnExactTrim", inPlace := ["internal/bytealg.IndexByteString", "internal/bytealg.IndexString"], named := ["unicode/utf8.first", "unicode/utf8.acceptRanges", "internal/bytealg.MaxLen"], apart := false, laid := [("unicode/utf8.acceptRanges", laid_unicode_utf8_acceptRanges), ("unicode/utf8.first", laid_unicode_utf8_first)], narrowed := true }
def FnExactTrimUptoSaid : Prop := fnExactTrimUptoRow.holds Tryd.pinned (OpenSpec.upto fnExactTrimSpec)

/-- 'laws.FnExactRunes', WHERE WHAT IT READS IS OF BULK AT MOST 1048576: true; the input reads as it did. -/
def fnExactRunesUptoRow : OpenClaim := { program := "ytokkcbjhkepjnaadoor", sum := "495f59d6a024f6a81ad4b4d5964d27003d5d5584aa47fce2cce813c6c2b4a6d0", func := "loop.example/g00191/laws.FnExactRunes", spec := "fnExactRunes", named := ["unicode/utf8.first", "unicode/utf8.acceptRanges"], apart := false, laid := [("unicode/utf8.acceptRanges", laid_unicode_utf8_acceptRanges), ("unicode/utf8.first", laid_unicode_utf8_first)], narrowed := true }
def FnExactRunesUptoSaid : Prop := fnExactRunesUptoRow.holds Tryd.pinned (OpenSpec.upto fnExactRunesSpec)

/-- 'laws.FnExactKeeps', WHERE WHAT IT READS IS OF BULK AT MOST 1048576: true; the input reads as it did. -/
def fnExactKeepsUptoRow : OpenClaim := { program := "ytokkcbjhkepjnaadoor", sum := "495f59d6a024f6a81ad4b4d5964d27003d5d5584aa47fce2cce813c6c2b4a6d0", func := "loop.example/g00191/laws.FnExactKeeps", spec := "fnExactKeeps", named := ["loop.example/g00191/impl.keptMarks", "loop.example/g00191/impl.plainMarks"], apart := false, laid := [("loop.example/g00191/impl.plainMarks", laid_loop_example_g00191_impl_plainMarks), ("loop.example/g00191/impl.keptMarks", laid_loop_example_g00191_impl_keptMarks)], narrowed := true }
def FnExactKeepsUptoSaid : Prop := fnExactKeepsUptoRow.holds Tryd.pinned (OpenSpec.upto fnExactKeepsSpec)

/-- 'laws.FnExactPercent', WHERE WHAT IT READS IS OF BULK AT MOST 1048576: true; the input reads as it did. -/
def fnExactPercentUptoRow : OpenClaim := { program := "ytokkcbjhkepjnaadoor", sum := "495f59d6a024f6a81ad4b4d5964d27003d5d5584aa47fce2cce813c6c2b4a6d0", func := "loop.example/g00191/laws.FnExactPercent", spec := "fnExactPercent", named := ["loop.example/g00191/impl.keptMarks", "loop.example/g00191/impl.plainMarks"], apart := false, laid := [("loop.example/g00191/impl.plainMarks", laid_loop_example_g00191_impl_plainMarks), ("loop.example/g00191/impl.keptMarks", laid_loop_example_g00191_impl_keptMarks)], narrowed := true }
def FnExactPercentUptoSaid : Prop := fnExactPercentUptoRow.holds Tryd.pinned (OpenSpec.upto fnExactPercentSpec)

/-- 'laws.FnExactPercentOk', WHERE WHAT IT READS IS OF BULK AT MOST 1048576: true; the input reads as it did. -/
def fnExactPercentOkUptoRow : OpenClaim := { program := "ytokkcbjhkepjnaadoor", sum := "495f59d6a024f6a81ad4b4d5964d27003d5d5584aa47fce2cce813c6c2b4a6d0", func := "loop.example/g00191/laws.FnExactPercentOk", spec := "fnExactPercentOk", named := ["loop.example/g00191/impl.keptMarks", "loop.example/g00191/impl.plainMarks"], apart := false, laid := [("loop.example/g00191/impl.plainMarks", laid_loop_example_g00191_impl_plainMarks), ("loop.example/g00191/impl.keptMarks", laid_loop_example_g00191_impl_keptMarks)], narrowed := true }
def FnExactPercentOkUptoSaid : Prop := fnExactPercentOkUptoRow.holds Tryd.pinned (OpenSpec.upto fnExactPercentOkSpec)

/-- 'laws.FnExactPlainly', WHERE WHAT IT READS IS OF BULK AT MOST 1048576: true; the input reads as it did. -/
def fnExactPlainlyUptoRow : OpenClaim := { program := "ytokkcbjhkepjnaadoor", sum := "495f59d6a024f6a81ad4b4d5964d27003d5d5584aa47fce2cce813c6c2b4a6d0", func := "loop.example/g00191/laws.FnExactPlainly", spec := "fnExactPlainly", named := ["loop.example/g00191/impl.keptMarks", "loop.example/g00191/impl.plainMarks"], apart := false, laid := [("loop.example/g00191/impl.plainMarks", laid_loop_example_g00191_impl_plainMarks), ("loop.example/g00191/impl.keptMarks", laid_loop_example_g00191_impl_keptMarks)], narrowed := true }
def FnExactPlainlyUptoSaid : Prop := fnExactPlainlyUptoRow.holds Tryd.pinned (OpenSpec.upto fnExactPlainlySpec)

end Rows
end Go.Proofs.YtokkcbjhkepjnaaDoor
