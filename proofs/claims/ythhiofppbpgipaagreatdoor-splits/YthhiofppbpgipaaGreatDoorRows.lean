/-
  NARROWER THAN 'FOR EVERY INPUT', by the rows' own cells (each row's printed sentence says how): Matches: laid · Splits: laid · Formats: laid.
  DERIVED. THE GIVEN ROWS OF THIS SEAT. 3 by the template 'for every input the law returns true; each argument reads behind the call as it read before'; 0 by the template 'total and deterministic' (their statements: YthhiofppbpgipaaGreatDoorTotals.lean).
  GIVEN WITH THE SEED: the statements are not yours to turn. If you find one false, say at which input.
  Laid BY PROGRAM, IN A SANDBOX (cutbox-rows.mjs): the forced cells as the released guide's own fill.sh prints them over the translation acaa7590fa9d5999… (all of the seat's roots in one cut). By AI agents, Wed Nov 11 2026. No macro, syntax, notation, axiom, sorry.
-/
import Derived.Test.YthhiofppbpgipaaGreatDoorChecked
import GoSem.Claim
import GoSem.ClaimJoined
import GoSem.ClaimMapViews
import Derived.JoinedTies
import Derived.KernelRfl
namespace Go.Proofs.YthhiofppbpgipaaGreatDoor
/- THE CELL 'sum', in the pinned program and in every row, IS THE sha256 OF THE DUMP (.gsa) THAT YthhiofppbpgipaaGreatDoorProg.lean LOADS. Nothing in Lean hashes anything: it is a label: what it is worth is what the hold of that sum in a sandbox is worth. -/
noncomputable def Tryz.pinned : Pinned := { name := "ythhiofppbpgipaagreatdoor", sum := "acaa7590fa9d59990bd1f596d730999ad28dde1c4b1d209b929c379be7c17c2b", checked := Tryz.checked }
namespace Rows
def none {H : Type} : Left H := { results := [], args := [] }

/- WHAT THE LISTED PACKAGE-LEVEL VARIABLES READ AS WHEN THE CALL BEGINS. Each datum BY PROGRAM (the guide's laid-datum.mjs) off the statement by which the dump's own 'gosem.cut.vars' lays the variable. In a bare row this is a premise. The card (YthhiofppbpgipaaGreatDoorCards.lean) ties it to the program's text. -/
def laid_glean_fault_ErrFormat {H : Type} : DataW H := .iface "*errors.errorString" (.ptr (.agg [.lit (.string [97, 32, 37, 32, 119, 105, 116, 104, 32, 119, 104, 105, 99, 104, 32, 110, 111, 32, 105, 116, 101, 109, 32, 98, 101, 103, 105, 110, 115])]))
def laid_glean_fault_ErrText {H : Type} : DataW H := .iface "*errors.errorString" (.ptr (.agg [.lit (.string [97, 32, 116, 101, 120, 116, 32, 116, 104, 97, 116, 32, 104, 97, 115, 32, 103, 114, 111, 119, 110, 32, 116, 111, 111, 32, 108, 111, 110, 103])]))
def laid_internal_strconv_uint64pow10 {H : Type} : DataW H := .agg [.lit (.int .u64 1), .lit (.int .u64 10), .lit (.int .u64 100), .lit (.int .u64 1000), .lit (.int .u64 10000), .lit (.int .u64 100000), .lit (.int .u64 1000000), .lit (.int .u64 10000000), .lit (.int .u64 100000000), .lit (.int .u64 1000000000), .lit (.int .u64 10000000000), .lit (.int .u64 100000000000), .lit (.int .u64 1000000000000), .lit (.int .u64 10000000000000), .lit (.int .u64 100000000000000), .lit (.int .u64 1000000000000000), .lit (.int .u64 10000000000000000), .lit (.int .u64 100000000000000000), .lit (.int .u64 1000000000000000000), .lit (.int .u64 10000000000000000000)]
def laid_math_bits_deBruijn32tab {H : Type} : DataW H := .agg [.lit (.int .u8 0), .lit (.int .u8 1), .lit (.int .u8 28), .lit (.int .u8 2), .lit (.int .u8 29), .lit (.int .u8 14), .lit (.int .u8 24), .lit (.int .u8 3), .lit (.int .u8 30), .lit (.int .u8 22), .lit (.int .u8 20), .lit (.int .u8 15), .lit (.int .u8 25), .lit (.int .u8 17), .lit (.int .u8 4), .lit (.int .u8 8), .lit (.int .u8 31), .lit (.int .u8 27), .lit (.int .u8 13), .lit (.int .u8 23), .lit (.int .u8 21), .lit (.int .u8 19), .lit (.int .u8 16), .lit (.int .u8 7), .lit (.int .u8 26), .lit (.int .u8 12), .lit (.int .u8 18), .lit (.int .u8 6), .lit (.int .u8 11), .lit (.int .u8 5), .lit (.int .u8 10), .lit (.int .u8 9)]
def laid_math_bits_deBruijn64tab {H : Type} : DataW H := .agg [.lit (.int .u8 0), .lit (.int .u8 1), .lit (.int .u8 56), .lit (.int .u8 2), .lit (.int .u8 57), .lit (.int .u8 49), .lit (.int .u8 28), .lit (.int .u8 3), .lit (.int .u8 61), .lit (.int .u8 58), .lit (.int .u8 42), .lit (.int .u8 50), .lit (.int .u8 38), .lit (.int .u8 29), .lit (.int .u8 17), .lit (.int .u8 4), .lit (.int .u8 62), .lit (.int .u8 47), .lit (.int .u8 59), .lit (.int .u8 36), .lit (.int .u8 45), .lit (.int .u8 43), .lit (.int .u8 51), .lit (.int .u8 22), .lit (.int .u8 53), .lit (.int .u8 39), .lit (.int .u8 33), .lit (.int .u8 30), .lit (.int .u8 24), .lit (.int .u8 18), .lit (.int .u8 12), .lit (.int .u8 5), .lit (.int .u8 63), .lit (.int .u8 55), .lit (.int .u8 48), .lit (.int .u8 27), .lit (.int .u8 60), .lit (.int .u8 41), .lit (.int .u8 37), .lit (.int .u8 16), .lit (.int .u8 46), .lit (.int .u8 35), .lit (.int .u8 44), .lit (.int .u8 21), .lit (.int .u8 52), .lit (.int .u8 32), .lit (.int .u8 23), .lit (.int .u8 11), .lit (.int .u8 54), .lit (.int .u8 26), .lit (.int .u8 40), .lit (.int .u8 15), .lit (.int .u8 34), .lit (.int .u8 20), .lit (.int .u8 31), .lit (.int .u8 10), .lit (.int .u8 25), .lit (.int .u8 14), .lit (.int .u8 19), .lit (.int .u8 9), .lit (.int .u8 13), .lit (.int .u8 8), .lit (.int .u8 7), .lit (.int .u8 6)]
def laid_glean_fault_ErrFuel {H : Type} : DataW H := .iface "*errors.errorString" (.ptr (.agg [.lit (.string [116, 104, 101, 32, 115, 116, 101, 112, 115, 32, 97, 114, 101, 32, 115, 112, 101, 110, 116])]))
def laid_glean_fault_ErrZero {H : Type} : DataW H := .iface "*errors.errorString" (.ptr (.agg [.lit (.string [97, 32, 100, 105, 118, 105, 115, 105, 111, 110, 32, 98, 121, 32, 48])]))
def laid_glean_fault_ErrField {H : Type} : DataW H := .iface "*errors.errorString" (.ptr (.agg [.lit (.string [97, 32, 102, 105, 101, 108, 100, 32, 116, 104, 97, 116, 32, 116, 104, 101, 114, 101, 32, 99, 97, 110, 110, 111, 116, 32, 98, 101])]))
def laid_glean_fault_ErrRegex {H : Type} : DataW H := .iface "*errors.errorString" (.ptr (.agg [.lit (.string [110, 111, 32, 112, 97, 116, 116, 101, 114, 110])]))
def laid_glean_fault_ErrDeep {H : Type} : DataW H := .iface "*errors.errorString" (.ptr (.agg [.lit (.string [116, 111, 111, 32, 109, 97, 110, 121, 32, 99, 97, 108, 108, 115, 32, 119, 105, 116, 104, 105, 110, 32, 99, 97, 108, 108, 115])]))
def laid_glean_fault_ErrOut {H : Type} : DataW H := .iface "*errors.errorString" (.ptr (.agg [.lit (.string [116, 111, 111, 32, 109, 117, 99, 104, 32, 112, 117, 116, 32, 111, 117, 116])]))
def laid_strconv_ErrSyntax {H : Type} : DataW H := .iface "*errors.errorString" (.ptr (.agg [.lit (.string [105, 110, 118, 97, 108, 105, 100, 32, 115, 121, 110, 116, 97, 120])]))
def laid_strconv_ErrRange {H : Type} : DataW H := .iface "*errors.errorString" (.ptr (.agg [.lit (.string [118, 97, 108, 117, 101, 32, 111, 117, 116, 32, 111, 102, 32, 114, 97, 110, 103, 101])]))

/-- 'gleanlaw.Matches': WHATEVER THE INPUT: true; the input reads as it did. -/
def matchesSpec : ChangeSpec := { name := "matches", fn := fun _ => fun
  | [d] => { results := [.lit (.bool true)], args := [d] }
  | _ => none }
def matchesRow : OpenClaim := { program := "ythhiofppbpgipaagreatdoor", sum := "acaa7590fa9d59990bd1f596d730999ad28dde1c4b1d209b929c379be7c17c2b", func := "glean/gleanlaw.Matches", spec := "matches", inPlace := ["internal/abi.NoEscape", "internal/bytealg.MakeNoZero", "internal/reflectlite.TypeOf", "internal/bytealg.IndexByteString", "internal/bytealg.IndexString"], unfollowed := true, recurses := true, named := ["glean/fault.ErrFormat", "glean/fault.ErrText", "internal/strconv.uint64pow10", "math/bits.deBruijn32tab", "math/bits.deBruijn64tab", "glean/fault.ErrFuel", "glean/fault.ErrZero", "glean/fault.ErrField", "glean/fault.ErrRegex", "glean/fault.ErrDeep", "glean/fault.ErrOut", "strconv.ErrSyntax", "strconv.ErrRange", "internal/bytealg.MaxLen"], plainKeys := false, apart := false, laid := [("glean/fault.ErrFormat", laid_glean_fault_ErrFormat), ("glean/fault.ErrText", laid_glean_fault_ErrText), ("internal/strconv.uint64pow10", laid_internal_strconv_uint64pow10), ("math/bits.deBruijn32tab", laid_math_bits_deBruijn32tab), ("math/bits.deBruijn64tab", laid_math_bits_deBruijn64tab), ("glean/fault.ErrFuel", laid_glean_fault_ErrFuel), ("glean/fault.ErrZero", laid_glean_fault_ErrZero), ("glean/fault.ErrField", laid_glean_fault_ErrField), ("glean/fault.ErrRegex", laid_glean_fault_ErrRegex), ("glean/fault.ErrDeep", laid_glean_fault_ErrDeep), ("glean/fault.ErrOut", laid_glean_fault_ErrOut), ("strconv.ErrSyntax", laid_strconv_ErrSyntax), ("strconv.ErrRange", laid_strconv_ErrRange)] }
def MatchesSaid : Prop := matchesRow.holds Tryz.pinned (OpenSpec.ofChange matchesSpec)

/-- ITS FALSE NEIGHBOUR: 'it returns false'. Refute it at one input. -/
def matchesWrong : ChangeSpec := { name := "matches", fn := fun _ => fun
  | [d] => { results := [.lit (.bool false)], args := [d] }
  | _ => none }
def MatchesWrongFalsely : Prop := matchesRow.holds Tryz.pinned (OpenSpec.ofChange matchesWrong)

/-- 'gleanlaw.Splits': WHATEVER THE INPUT: true; the input reads as it did. -/
def splitsSpec : ChangeSpec := { name := "splits", fn := fun _ => fun
  | [d] => { results := [.lit (.bool true)], args := [d] }
  | _ => none }
def splitsRow : OpenClaim := { program := "ythhiofppbpgipaagreatdoor", sum := "acaa7590fa9d59990bd1f596d730999ad28dde1c4b1d209b929c379be7c17c2b", func := "glean/gleanlaw.Splits", spec := "splits", inPlace := ["internal/abi.NoEscape", "internal/bytealg.MakeNoZero", "internal/reflectlite.TypeOf", "internal/bytealg.IndexByteString", "internal/bytealg.IndexString"], unfollowed := true, recurses := true, named := ["glean/fault.ErrFormat", "glean/fault.ErrText", "internal/strconv.uint64pow10", "math/bits.deBruijn32tab", "math/bits.deBruijn64tab", "glean/fault.ErrFuel", "glean/fault.ErrZero", "glean/fault.ErrField", "glean/fault.ErrRegex", "glean/fault.ErrDeep", "glean/fault.ErrOut", "strconv.ErrSyntax", "strconv.ErrRange", "internal/bytealg.MaxLen"], plainKeys := false, apart := false, laid := [("glean/fault.ErrFormat", laid_glean_fault_ErrFormat), ("glean/fault.ErrText", laid_glean_fault_ErrText), ("internal/strconv.uint64pow10", laid_internal_strconv_uint64pow10), ("math/bits.deBruijn32tab", laid_math_bits_deBruijn32tab), ("math/bits.deBruijn64tab", laid_math_bits_deBruijn64tab), ("glean/fault.ErrFuel", laid_glean_fault_ErrFuel), ("glean/fault.ErrZero", laid_glean_fault_ErrZero), ("glean/fault.ErrField", laid_glean_fault_ErrField), ("glean/fault.ErrRegex", laid_glean_fault_ErrRegex), ("glean/fault.ErrDeep", laid_glean_fault_ErrDeep), ("glean/fault.ErrOut", laid_glean_fault_ErrOut), ("strconv.ErrSyntax", laid_strconv_ErrSyntax), ("strconv.ErrRange", laid_strconv_ErrRange)] }
def SplitsSaid : Prop := splitsRow.holds Tryz.pinned (OpenSpec.ofChange splitsSpec)

/-- ITS FALSE NEIGHBOUR: 'it returns false'. Refute it at one input. -/
def splitsWrong : ChangeSpec := { name := "splits", fn := fun _ => fun
  | [d] => { results := [.lit (.bool false)], args := [d] }
  | _ => none }
def SplitsWrongFalsely : Prop := splitsRow.holds Tryz.pinned (OpenSpec.ofChange splitsWrong)

/-- 'gleanlaw.Formats': WHATEVER THE INPUT: true; the input reads as it did. -/
def formatsSpec : ChangeSpec := { name := "formats", fn := fun _ => fun
  | [d] => { results := [.lit (.bool true)], args := [d] }
  | _ => none }
def formatsRow : OpenClaim := { program := "ythhiofppbpgipaagreatdoor", sum := "acaa7590fa9d59990bd1f596d730999ad28dde1c4b1d209b929c379be7c17c2b", func := "glean/gleanlaw.Formats", spec := "formats", inPlace := ["internal/abi.NoEscape", "internal/bytealg.MakeNoZero", "internal/reflectlite.TypeOf", "internal/bytealg.IndexByteString", "internal/bytealg.IndexString"], unfollowed := true, recurses := true, named := ["glean/fault.ErrFormat", "glean/fault.ErrText", "internal/strconv.uint64pow10", "math/bits.deBruijn32tab", "math/bits.deBruijn64tab", "glean/fault.ErrFuel", "glean/fault.ErrZero", "glean/fault.ErrField", "glean/fault.ErrRegex", "glean/fault.ErrDeep", "glean/fault.ErrOut", "strconv.ErrSyntax", "strconv.ErrRange", "internal/bytealg.MaxLen"], plainKeys := false, apart := false, laid := [("glean/fault.ErrFormat", laid_glean_fault_ErrFormat), ("glean/fault.ErrText", laid_glean_fault_ErrText), ("internal/strconv.uint64pow10", laid_internal_strconv_uint64pow10), ("math/bits.deBruijn32tab", laid_math_bits_deBruijn32tab), ("math/bits.deBruijn64tab", laid_math_bits_deBruijn64tab), ("glean/fault.ErrFuel", laid_glean_fault_ErrFuel), ("glean/fault.ErrZero", laid_glean_fault_ErrZero), ("glean/fault.ErrField", laid_glean_fault_ErrField), ("glean/fault.ErrRegex", laid_glean_fault_ErrRegex), ("glean/fault.ErrDeep", laid_glean_fault_ErrDeep), ("glean/fault.ErrOut", laid_glean_fault_ErrOut), ("strconv.ErrSyntax", laid_strconv_ErrSyntax), ("strconv.ErrRange", laid_strconv_ErrRange)] }
def FormatsSaid : Prop := formatsRow.holds Tryz.pinned (OpenSpec.ofChange formatsSpec)

/-- ITS FALSE NEIGHBOUR: 'it returns false'. Refute it at one input. -/
def formatsWrong : ChangeSpec := { name := "formats", fn := fun _ => fun
  | [d] => { results := [.lit (.bool false)], args := [d] }
  | _ => none }
def FormatsWrongFalsely : Prop := formatsRow.holds Tryz.pinned (OpenSpec.ofChange formatsWrong)

/- THE SECOND FORM. 'bulk': how many values and letters a reading holds, each counted each time it is reached (what is shared counts as often as it is met; a slice's spare places count too). A statement '..UptoSaid' is the law's where the arguments, and the package variables that the reading takes, are together of bulk at most 1048576: NARROWER than '..Said'. Prove '..Said' where nothing that the law and all that it calls make is longer than what came in: it says more and counts as full. Else prove '..UptoSaid'. A law counts once. -/
mutual
def uptoBulk {H : Type} : DataW H → Nat
  | .lit (.string bytes) => bytes.length + 1
  | .lit _ => 1
  | .nil => 1
  | .ptr d => uptoBulk d + 1
  | .slice elems spare => uptoBulkAll elems + uptoBulkAll spare + 1
  | .agg parts => uptoBulkAll parts + 1
  | .iface _ d => uptoBulk d + 1
  | .map entries => uptoBulkEntries entries + 1
  | .held _ => 1
def uptoBulkAll {H : Type} : List (DataW H) → Nat
  | [] => 0
  | d :: r => uptoBulk d + uptoBulkAll r
def uptoBulkEntries {H : Type} : List (Lit × DataW H) → Nat
  | [] => 0
  | x :: r => uptoBulkEntry x + uptoBulkEntries r
def uptoBulkEntry {H : Type} : Lit × DataW H → Nat
  | (.string bytes, d) => bytes.length + uptoBulk d + 1
  | (_, d) => uptoBulk d + 1
 end
def uptoSmall : (H : Type) → List (DataW H) → Bool := fun _ ds => decide (uptoBulkAll ds ≤ 1048576)
def OpenSpec.upto (s : _root_.Go.ChangeSpec) : _root_.Go.OpenSpec := { _root_.Go.OpenSpec.ofChange s with cond := some uptoSmall }

/-- 'gleanlaw.Matches', WHERE WHAT IT READS IS OF BULK AT MOST 1048576: true; the input reads as it did. -/
def matchesUptoRow : OpenClaim := { program := "ythhiofppbpgipaagreatdoor", sum := "acaa7590fa9d59990bd1f596d730999ad28dde1c4b1d209b929c379be7c17c2b", func := "glean/gleanlaw.Matches", spec := "matches", inPlace := ["internal/abi.NoEscape", "internal/bytealg.MakeNoZero", "internal/reflectlite.TypeOf", "internal/bytealg.IndexByteString", "internal/bytealg.IndexString"], unfollowed := true, recurses := true, named := ["glean/fault.ErrFormat", "glean/fault.ErrText", "internal/strconv.uint64pow10", "math/bits.deBruijn32tab", "math/bits.deBruijn64tab", "glean/fault.ErrFuel", "glean/fault.ErrZero", "glean/fault.ErrField", "glean/fault.ErrRegex", "glean/fault.ErrDeep", "glean/fault.ErrOut", "strconv.ErrSyntax", "strconv.ErrRange", "internal/bytealg.MaxLen"], plainKeys := false, apart := false, laid := [("glean/fault.ErrFormat", laid_glean_fault_ErrFormat), ("glean/fault.ErrText", laid_glean_fault_ErrText), ("internal/strconv.uint64pow10", laid_internal_strconv_uint64pow10), ("math/bits.deBruijn32tab", laid_math_bits_deBruijn32tab), ("math/bits.deBruijn64tab", laid_math_bits_deBruijn64tab), ("glean/fault.ErrFuel", laid_glean_fault_ErrFuel), ("glean/fault.ErrZero", laid_glean_fault_ErrZero), ("glean/fault.ErrField", laid_glean_fault_ErrField), ("glean/fault.ErrRegex", laid_glean_fault_ErrRegex), ("glean/fault.ErrDeep", laid_glean_fault_ErrDeep), ("glean/fault.ErrOut", laid_glean_fault_ErrOut), ("strconv.ErrSyntax", laid_strconv_ErrSyntax), ("strconv.ErrRange", laid_strconv_ErrRange)], narrowed := true }
def MatchesUptoSaid : Prop := matchesUptoRow.holds Tryz.pinned (OpenSpec.upto matchesSpec)

/-- 'gleanlaw.Splits', WHERE WHAT IT READS IS OF BULK AT MOST 1048576: true; the input reads as it did. -/
def splitsUptoRow : OpenClaim := { program := "ythhiofppbpgipaagreatdoor", sum := "acaa7590fa9d59990bd1f596d730999ad28dde1c4b1d209b929c379be7c17c2b", func := "glean/gleanlaw.Splits", spec := "splits", inPlace := ["internal/abi.NoEscape", "internal/bytealg.MakeNoZero", "internal/reflectlite.TypeOf", "internal/bytealg.IndexByteString", "internal/bytealg.IndexString"], unfollowed := true, recurses := true, named := ["glean/fault.ErrFormat", "glean/fault.ErrText", "internal/strconv.uint64pow10", "math/bits.deBruijn32tab", "math/bits.deBruijn64tab", "glean/fault.ErrFuel", "glean/fault.ErrZero", "glean/fault.ErrField", "glean/fault.ErrRegex", "glean/fault.ErrDeep", "glean/fault.ErrOut", "strconv.ErrSyntax", "strconv.ErrRange", "internal/bytealg.MaxLen"], plainKeys := false, apart := false, laid := [("glean/fault.ErrFormat", laid_glean_fault_ErrFormat), ("glean/fault.ErrText", laid_glean_fault_ErrText), ("internal/strconv.uint64pow10", laid_internal_strconv_uint64pow10), ("math/bits.deBruijn32tab", laid_math_bits_deBruijn32tab), ("math/bits.deBruijn64tab", laid_math_bits_deBruijn64tab), ("glean/fault.ErrFuel", laid_glean_fault_ErrFuel), ("glean/fault.ErrZero", laid_glean_fault_ErrZero), ("glean/fault.ErrField", laid_glean_fault_ErrField), ("glean/fault.ErrRegex", laid_glean_fault_ErrRegex), ("glean/fault.ErrDeep", laid_glean_fault_ErrDeep), ("glean/fault.ErrOut", laid_glean_fault_ErrOut), ("strconv.ErrSyntax", laid_strconv_ErrSyntax), ("strconv.ErrRange", laid_strconv_ErrRange)], narrowed := true }
def SplitsUptoSaid : Prop := splitsUptoRow.holds Tryz.pinned (OpenSpec.upto splitsSpec)

/-- 'gleanlaw.Formats', WHERE WHAT IT READS IS OF BULK AT MOST 1048576: true; the input reads as it did. -/
def formatsUptoRow : OpenClaim := { program := "ythhiofppbpgipaagreatdoor", sum := "acaa7590fa9d59990bd1f596d730999ad28dde1c4b1d209b929c379be7c17c2b", func := "glean/gleanlaw.Formats", spec := "formats", inPlace := ["internal/abi.NoEscape", "internal/bytealg.MakeNoZero", "internal/reflectlite.TypeOf", "internal/bytealg.IndexByteString", "internal/bytealg.IndexString"], unfollowed := true, recurses := true, named := ["glean/fault.ErrFormat", "glean/fault.ErrText", "internal/strconv.uint64pow10", "math/bits.deBruijn32tab", "math/bits.deBruijn64tab", "glean/fault.ErrFuel", "glean/fault.ErrZero", "glean/fault.ErrField", "glean/fault.ErrRegex", "glean/fault.ErrDeep", "glean/fault.ErrOut", "strconv.ErrSyntax", "strconv.ErrRange", "internal/bytealg.MaxLen"], plainKeys := false, apart := false, laid := [("glean/fault.ErrFormat", laid_glean_fault_ErrFormat), ("glean/fault.ErrText", laid_glean_fault_ErrText), ("internal/strconv.uint64pow10", laid_internal_strconv_uint64pow10), ("math/bits.deBruijn32tab", laid_math_bits_deBruijn32tab), ("math/bits.deBruijn64tab", laid_math_bits_deBruijn64tab), ("glean/fault.ErrFuel", laid_glean_fault_ErrFuel), ("glean/fault.ErrZero", laid_glean_fault_ErrZero), ("glean/fault.ErrField", laid_glean_fault_ErrField), ("glean/fault.ErrRegex", laid_glean_fault_ErrRegex), ("glean/fault.ErrDeep", laid_glean_fault_ErrDeep), ("glean/fault.ErrOut", laid_glean_fault_ErrOut), ("strconv.ErrSyntax", laid_strconv_ErrSyntax), ("strconv.ErrRange", laid_strconv_ErrRange)], narrowed := true }
def FormatsUptoSaid : Prop := formatsUptoRow.holds Tryz.pinned (OpenSpec.upto formatsSpec)

end Rows
end Go.Proofs.YthhiofppbpgipaaGreatDoor
