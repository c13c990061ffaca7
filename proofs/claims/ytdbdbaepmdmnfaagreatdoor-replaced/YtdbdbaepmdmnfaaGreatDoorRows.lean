/-
  NARROWER THAN 'FOR EVERY INPUT', by the rows' own cells (each row's printed sentence says how): New: laid · Again: laid · Lines: laid · Fields: laid · Each: laid · Replaced: laid · Longer: laid.
  DERIVED. THE GIVEN ROWS OF THIS SEAT. 7 by the template 'for every input the law returns true; each argument reads behind the call as it read before'; 0 by the template 'total and deterministic' (their statements: YtdbdbaepmdmnfaaGreatDoorTotals.lean).
  GIVEN WITH THE SEED: the statements are not yours to turn. If you find one false, say at which input.
  Laid BY PROGRAM, IN A SANDBOX (cutbox-rows.mjs): the forced cells as the released guide's own fill.sh prints them over the translation 595cc4b466881e47… (all of the seat's roots in one cut). By AI agents, Wed Nov 11 2026. No macro, syntax, notation, axiom, sorry.
-/
import Derived.Test.YtdbdbaepmdmnfaaGreatDoorChecked
import GoSem.Claim
import GoSem.ClaimJoined
import GoSem.ClaimMapViews
import Derived.JoinedTies
import Derived.KernelRfl
namespace Go.Proofs.YtdbdbaepmdmnfaaGreatDoor
/- THE CELL 'sum', in the pinned program and in every row, IS THE sha256 OF THE DUMP (.gsa) THAT YtdbdbaepmdmnfaaGreatDoorProg.lean LOADS. Nothing in Lean hashes anything: it is a label: what it is worth is what the hold of that sum in a sandbox is worth. -/
noncomputable def Tryz.pinned : Pinned := { name := "ytdbdbaepmdmnfaagreatdoor", sum := "595cc4b466881e47ac02b90a77540f1e12060f2fb020efc9b9817dbacd56e725", checked := Tryz.checked }
namespace Rows
def none {H : Type} : Left H := { results := [], args := [] }

/- WHAT THE LISTED PACKAGE-LEVEL VARIABLES READ AS WHEN THE CALL BEGINS. Each datum BY PROGRAM (the guide's laid-datum.mjs) off the statement by which the dump's own 'gosem.cut.vars' lays the variable. In a bare row this is a premise. The card (YtdbdbaepmdmnfaaGreatDoorCards.lean) ties it to the program's text. -/
def laid_strconv_ErrSyntax {H : Type} : DataW H := .iface "*errors.errorString" (.ptr (.agg [.lit (.string [105, 110, 118, 97, 108, 105, 100, 32, 115, 121, 110, 116, 97, 120])]))
def laid_strconv_ErrRange {H : Type} : DataW H := .iface "*errors.errorString" (.ptr (.agg [.lit (.string [118, 97, 108, 117, 101, 32, 111, 117, 116, 32, 111, 102, 32, 114, 97, 110, 103, 101])]))
def laid_internal_strconv_uint64pow10 {H : Type} : DataW H := .agg [.lit (.int .u64 1), .lit (.int .u64 10), .lit (.int .u64 100), .lit (.int .u64 1000), .lit (.int .u64 10000), .lit (.int .u64 100000), .lit (.int .u64 1000000), .lit (.int .u64 10000000), .lit (.int .u64 100000000), .lit (.int .u64 1000000000), .lit (.int .u64 10000000000), .lit (.int .u64 100000000000), .lit (.int .u64 1000000000000), .lit (.int .u64 10000000000000), .lit (.int .u64 100000000000000), .lit (.int .u64 1000000000000000), .lit (.int .u64 10000000000000000), .lit (.int .u64 100000000000000000), .lit (.int .u64 1000000000000000000), .lit (.int .u64 10000000000000000000)]
def laid_math_bits_deBruijn32tab {H : Type} : DataW H := .agg [.lit (.int .u8 0), .lit (.int .u8 1), .lit (.int .u8 28), .lit (.int .u8 2), .lit (.int .u8 29), .lit (.int .u8 14), .lit (.int .u8 24), .lit (.int .u8 3), .lit (.int .u8 30), .lit (.int .u8 22), .lit (.int .u8 20), .lit (.int .u8 15), .lit (.int .u8 25), .lit (.int .u8 17), .lit (.int .u8 4), .lit (.int .u8 8), .lit (.int .u8 31), .lit (.int .u8 27), .lit (.int .u8 13), .lit (.int .u8 23), .lit (.int .u8 21), .lit (.int .u8 19), .lit (.int .u8 16), .lit (.int .u8 7), .lit (.int .u8 26), .lit (.int .u8 12), .lit (.int .u8 18), .lit (.int .u8 6), .lit (.int .u8 11), .lit (.int .u8 5), .lit (.int .u8 10), .lit (.int .u8 9)]
def laid_math_bits_deBruijn64tab {H : Type} : DataW H := .agg [.lit (.int .u8 0), .lit (.int .u8 1), .lit (.int .u8 56), .lit (.int .u8 2), .lit (.int .u8 57), .lit (.int .u8 49), .lit (.int .u8 28), .lit (.int .u8 3), .lit (.int .u8 61), .lit (.int .u8 58), .lit (.int .u8 42), .lit (.int .u8 50), .lit (.int .u8 38), .lit (.int .u8 29), .lit (.int .u8 17), .lit (.int .u8 4), .lit (.int .u8 62), .lit (.int .u8 47), .lit (.int .u8 59), .lit (.int .u8 36), .lit (.int .u8 45), .lit (.int .u8 43), .lit (.int .u8 51), .lit (.int .u8 22), .lit (.int .u8 53), .lit (.int .u8 39), .lit (.int .u8 33), .lit (.int .u8 30), .lit (.int .u8 24), .lit (.int .u8 18), .lit (.int .u8 12), .lit (.int .u8 5), .lit (.int .u8 63), .lit (.int .u8 55), .lit (.int .u8 48), .lit (.int .u8 27), .lit (.int .u8 60), .lit (.int .u8 41), .lit (.int .u8 37), .lit (.int .u8 16), .lit (.int .u8 46), .lit (.int .u8 35), .lit (.int .u8 44), .lit (.int .u8 21), .lit (.int .u8 52), .lit (.int .u8 32), .lit (.int .u8 23), .lit (.int .u8 11), .lit (.int .u8 54), .lit (.int .u8 26), .lit (.int .u8 40), .lit (.int .u8 15), .lit (.int .u8 34), .lit (.int .u8 20), .lit (.int .u8 31), .lit (.int .u8 10), .lit (.int .u8 25), .lit (.int .u8 14), .lit (.int .u8 19), .lit (.int .u8 9), .lit (.int .u8 13), .lit (.int .u8 8), .lit (.int .u8 7), .lit (.int .u8 6)]
def laid_glean_fault_ErrRegex {H : Type} : DataW H := .iface "*errors.errorString" (.ptr (.agg [.lit (.string [110, 111, 32, 112, 97, 116, 116, 101, 114, 110])]))
def laid_glean_fault_ErrField {H : Type} : DataW H := .iface "*errors.errorString" (.ptr (.agg [.lit (.string [97, 32, 102, 105, 101, 108, 100, 32, 116, 104, 97, 116, 32, 116, 104, 101, 114, 101, 32, 99, 97, 110, 110, 111, 116, 32, 98, 101])]))
def laid_glean_fault_ErrText {H : Type} : DataW H := .iface "*errors.errorString" (.ptr (.agg [.lit (.string [97, 32, 116, 101, 120, 116, 32, 116, 104, 97, 116, 32, 104, 97, 115, 32, 103, 114, 111, 119, 110, 32, 116, 111, 111, 32, 108, 111, 110, 103])]))
def laid_glean_fault_ErrDeep {H : Type} : DataW H := .iface "*errors.errorString" (.ptr (.agg [.lit (.string [116, 111, 111, 32, 109, 97, 110, 121, 32, 99, 97, 108, 108, 115, 32, 119, 105, 116, 104, 105, 110, 32, 99, 97, 108, 108, 115])]))
def laid_glean_fault_ErrFormat {H : Type} : DataW H := .iface "*errors.errorString" (.ptr (.agg [.lit (.string [97, 32, 37, 32, 119, 105, 116, 104, 32, 119, 104, 105, 99, 104, 32, 110, 111, 32, 105, 116, 101, 109, 32, 98, 101, 103, 105, 110, 115])]))
def laid_glean_fault_ErrZero {H : Type} : DataW H := .iface "*errors.errorString" (.ptr (.agg [.lit (.string [97, 32, 100, 105, 118, 105, 115, 105, 111, 110, 32, 98, 121, 32, 48])]))
def laid_glean_fault_ErrFuel {H : Type} : DataW H := .iface "*errors.errorString" (.ptr (.agg [.lit (.string [116, 104, 101, 32, 115, 116, 101, 112, 115, 32, 97, 114, 101, 32, 115, 112, 101, 110, 116])]))
def laid_glean_fault_ErrOut {H : Type} : DataW H := .iface "*errors.errorString" (.ptr (.agg [.lit (.string [116, 111, 111, 32, 109, 117, 99, 104, 32, 112, 117, 116, 32, 111, 117, 116])]))

/-- 'gleanlaw.New': WHATEVER THE INPUT: true; the input reads as it did. -/
def newSpec : ChangeSpec := { name := "new", fn := fun _ => fun
  | [d] => { results := [.lit (.bool true)], args := [d] }
  | _ => none }
def newRow : OpenClaim := { program := "ytdbdbaepmdmnfaagreatdoor", sum := "595cc4b466881e47ac02b90a77540f1e12060f2fb020efc9b9817dbacd56e725", func := "glean/gleanlaw.New", spec := "new", inPlace := ["internal/abi.NoEscape", "internal/bytealg.MakeNoZero", "internal/bytealg.IndexByteString", "internal/bytealg.IndexString", "internal/reflectlite.TypeOf"], unfollowed := true, recurses := true, named := ["strconv.ErrSyntax", "strconv.ErrRange", "internal/strconv.uint64pow10", "math/bits.deBruijn32tab", "math/bits.deBruijn64tab", "glean/fault.ErrRegex", "glean/fault.ErrField", "glean/fault.ErrText", "glean/fault.ErrDeep", "glean/fault.ErrFormat", "internal/bytealg.MaxLen", "glean/fault.ErrZero", "glean/fault.ErrFuel", "glean/fault.ErrOut"], plainKeys := false, apart := false, laid := [("strconv.ErrSyntax", laid_strconv_ErrSyntax), ("strconv.ErrRange", laid_strconv_ErrRange), ("internal/strconv.uint64pow10", laid_internal_strconv_uint64pow10), ("math/bits.deBruijn32tab", laid_math_bits_deBruijn32tab), ("math/bits.deBruijn64tab", laid_math_bits_deBruijn64tab), ("glean/fault.ErrRegex", laid_glean_fault_ErrRegex), ("glean/fault.ErrField", laid_glean_fault_ErrField), ("glean/fault.ErrText", laid_glean_fault_ErrText), ("glean/fault.ErrDeep", laid_glean_fault_ErrDeep), ("glean/fault.ErrFormat", laid_glean_fault_ErrFormat), ("glean/fault.ErrZero", laid_glean_fault_ErrZero), ("glean/fault.ErrFuel", laid_glean_fault_ErrFuel), ("glean/fault.ErrOut", laid_glean_fault_ErrOut)] }
def NewSaid : Prop := newRow.holds Tryz.pinned (OpenSpec.ofChange newSpec)

/-- ITS FALSE NEIGHBOUR: 'it returns false'. Refute it at one input. -/
def newWrong : ChangeSpec := { name := "new", fn := fun _ => fun
  | [d] => { results := [.lit (.bool false)], args := [d] }
  | _ => none }
def NewWrongFalsely : Prop := newRow.holds Tryz.pinned (OpenSpec.ofChange newWrong)

/-- 'gleanlaw.Again': WHATEVER THE INPUT: true; the input reads as it did. -/
def againSpec : ChangeSpec := { name := "again", fn := fun _ => fun
  | [d] => { results := [.lit (.bool true)], args := [d] }
  | _ => none }
def againRow : OpenClaim := { program := "ytdbdbaepmdmnfaagreatdoor", sum := "595cc4b466881e47ac02b90a77540f1e12060f2fb020efc9b9817dbacd56e725", func := "glean/gleanlaw.Again", spec := "again", inPlace := ["internal/abi.NoEscape", "internal/bytealg.MakeNoZero", "internal/bytealg.IndexByteString", "internal/bytealg.IndexString", "internal/reflectlite.TypeOf"], unfollowed := true, recurses := true, named := ["strconv.ErrSyntax", "strconv.ErrRange", "internal/strconv.uint64pow10", "math/bits.deBruijn32tab", "math/bits.deBruijn64tab", "glean/fault.ErrRegex", "glean/fault.ErrField", "glean/fault.ErrText", "glean/fault.ErrDeep", "glean/fault.ErrFormat", "internal/bytealg.MaxLen", "glean/fault.ErrZero", "glean/fault.ErrFuel", "glean/fault.ErrOut"], plainKeys := false, apart := false, laid := [("strconv.ErrSyntax", laid_strconv_ErrSyntax), ("strconv.ErrRange", laid_strconv_ErrRange), ("internal/strconv.uint64pow10", laid_internal_strconv_uint64pow10), ("math/bits.deBruijn32tab", laid_math_bits_deBruijn32tab), ("math/bits.deBruijn64tab", laid_math_bits_deBruijn64tab), ("glean/fault.ErrRegex", laid_glean_fault_ErrRegex), ("glean/fault.ErrField", laid_glean_fault_ErrField), ("glean/fault.ErrText", laid_glean_fault_ErrText), ("glean/fault.ErrDeep", laid_glean_fault_ErrDeep), ("glean/fault.ErrFormat", laid_glean_fault_ErrFormat), ("glean/fault.ErrZero", laid_glean_fault_ErrZero), ("glean/fault.ErrFuel", laid_glean_fault_ErrFuel), ("glean/fault.ErrOut", laid_glean_fault_ErrOut)] }
def AgainSaid : Prop := againRow.holds Tryz.pinned (OpenSpec.ofChange againSpec)

/-- ITS FALSE NEIGHBOUR: 'it returns false'. Refute it at one input. -/
def againWrong : ChangeSpec := { name := "again", fn := fun _ => fun
  | [d] => { results := [.lit (.bool false)], args := [d] }
  | _ => none }
def AgainWrongFalsely : Prop := againRow.holds Tryz.pinned (OpenSpec.ofChange againWrong)

/-- 'gleanlaw.Lines': WHATEVER THE INPUT: true; the input reads as it did. -/
def linesSpec : ChangeSpec := { name := "lines", fn := fun _ => fun
  | [d] => { results := [.lit (.bool true)], args := [d] }
  | _ => none }
def linesRow : OpenClaim := { program := "ytdbdbaepmdmnfaagreatdoor", sum := "595cc4b466881e47ac02b90a77540f1e12060f2fb020efc9b9817dbacd56e725", func := "glean/gleanlaw.Lines", spec := "lines", inPlace := ["internal/abi.NoEscape", "internal/bytealg.MakeNoZero", "internal/bytealg.IndexByteString", "internal/bytealg.IndexString", "internal/reflectlite.TypeOf"], unfollowed := true, recurses := true, named := ["strconv.ErrSyntax", "strconv.ErrRange", "internal/strconv.uint64pow10", "math/bits.deBruijn32tab", "math/bits.deBruijn64tab", "glean/fault.ErrRegex", "glean/fault.ErrField", "glean/fault.ErrText", "glean/fault.ErrDeep", "glean/fault.ErrFormat", "internal/bytealg.MaxLen", "glean/fault.ErrZero", "glean/fault.ErrFuel", "glean/fault.ErrOut"], plainKeys := false, apart := false, laid := [("strconv.ErrSyntax", laid_strconv_ErrSyntax), ("strconv.ErrRange", laid_strconv_ErrRange), ("internal/strconv.uint64pow10", laid_internal_strconv_uint64pow10), ("math/bits.deBruijn32tab", laid_math_bits_deBruijn32tab), ("math/bits.deBruijn64tab", laid_math_bits_deBruijn64tab), ("glean/fault.ErrRegex", laid_glean_fault_ErrRegex), ("glean/fault.ErrField", laid_glean_fault_ErrField), ("glean/fault.ErrText", laid_glean_fault_ErrText), ("glean/fault.ErrDeep", laid_glean_fault_ErrDeep), ("glean/fault.ErrFormat", laid_glean_fault_ErrFormat), ("glean/fault.ErrZero", laid_glean_fault_ErrZero), ("glean/fault.ErrFuel", laid_glean_fault_ErrFuel), ("glean/fault.ErrOut", laid_glean_fault_ErrOut)] }
def LinesSaid : Prop := linesRow.holds Tryz.pinned (OpenSpec.ofChange linesSpec)

/-- ITS FALSE NEIGHBOUR: 'it returns false'. Refute it at one input. -/
def linesWrong : ChangeSpec := { name := "lines", fn := fun _ => fun
  | [d] => { results := [.lit (.bool false)], args := [d] }
  | _ => none }
def LinesWrongFalsely : Prop := linesRow.holds Tryz.pinned (OpenSpec.ofChange linesWrong)

/-- 'gleanlaw.Fields': WHATEVER THE INPUT: true; the input reads as it did. -/
def fieldsSpec : ChangeSpec := { name := "fields", fn := fun _ => fun
  | [d] => { results := [.lit (.bool true)], args := [d] }
  | _ => none }
def fieldsRow : OpenClaim := { program := "ytdbdbaepmdmnfaagreatdoor", sum := "595cc4b466881e47ac02b90a77540f1e12060f2fb020efc9b9817dbacd56e725", func := "glean/gleanlaw.Fields", spec := "fields", inPlace := ["internal/abi.NoEscape", "internal/bytealg.MakeNoZero", "internal/bytealg.IndexByteString", "internal/bytealg.IndexString", "internal/reflectlite.TypeOf"], unfollowed := true, recurses := true, named := ["strconv.ErrSyntax", "strconv.ErrRange", "internal/strconv.uint64pow10", "math/bits.deBruijn32tab", "math/bits.deBruijn64tab", "glean/fault.ErrRegex", "glean/fault.ErrField", "glean/fault.ErrText", "glean/fault.ErrDeep", "glean/fault.ErrFormat", "internal/bytealg.MaxLen", "glean/fault.ErrZero", "glean/fault.ErrFuel", "glean/fault.ErrOut"], plainKeys := false, apart := false, laid := [("strconv.ErrSyntax", laid_strconv_ErrSyntax), ("strconv.ErrRange", laid_strconv_ErrRange), ("internal/strconv.uint64pow10", laid_internal_strconv_uint64pow10), ("math/bits.deBruijn32tab", laid_math_bits_deBruijn32tab), ("math/bits.deBruijn64tab", laid_math_bits_deBruijn64tab), ("glean/fault.ErrRegex", laid_glean_fault_ErrRegex), ("glean/fault.ErrField", laid_glean_fault_ErrField), ("glean/fault.ErrText", laid_glean_fault_ErrText), ("glean/fault.ErrDeep", laid_glean_fault_ErrDeep), ("glean/fault.ErrFormat", laid_glean_fault_ErrFormat), ("glean/fault.ErrZero", laid_glean_fault_ErrZero), ("glean/fault.ErrFuel", laid_glean_fault_ErrFuel), ("glean/fault.ErrOut", laid_glean_fault_ErrOut)] }
def FieldsSaid : Prop := fieldsRow.holds Tryz.pinned (OpenSpec.ofChange fieldsSpec)

/-- ITS FALSE NEIGHBOUR: 'it returns false'. Refute it at one input. -/
def fieldsWrong : ChangeSpec := { name := "fields", fn := fun _ => fun
  | [d] => { results := [.lit (.bool false)], args := [d] }
  | _ => none }
def FieldsWrongFalsely : Prop := fieldsRow.holds Tryz.pinned (OpenSpec.ofChange fieldsWrong)

/-- 'gleanlaw.Each': WHATEVER THE INPUT: true; the input reads as it did. -/
def eachSpec : ChangeSpec := { name := "each", fn := fun _ => fun
  | [d] => { results := [.lit (.bool true)], args := [d] }
  | _ => none }
def eachRow : OpenClaim := { program := "ytdbdbaepmdmnfaagreatdoor", sum := "595cc4b466881e47ac02b90a77540f1e12060f2fb020efc9b9817dbacd56e725", func := "glean/gleanlaw.Each", spec := "each", inPlace := ["internal/abi.NoEscape", "internal/bytealg.MakeNoZero", "internal/bytealg.IndexByteString", "internal/bytealg.IndexString", "internal/reflectlite.TypeOf"], unfollowed := true, recurses := true, named := ["strconv.ErrSyntax", "strconv.ErrRange", "internal/strconv.uint64pow10", "math/bits.deBruijn32tab", "math/bits.deBruijn64tab", "glean/fault.ErrRegex", "glean/fault.ErrField", "glean/fault.ErrText", "glean/fault.ErrDeep", "glean/fault.ErrFormat", "internal/bytealg.MaxLen", "glean/fault.ErrZero", "glean/fault.ErrFuel", "glean/fault.ErrOut"], plainKeys := false, apart := false, laid := [("strconv.ErrSyntax", laid_strconv_ErrSyntax), ("strconv.ErrRange", laid_strconv_ErrRange), ("internal/strconv.uint64pow10", laid_internal_strconv_uint64pow10), ("math/bits.deBruijn32tab", laid_math_bits_deBruijn32tab), ("math/bits.deBruijn64tab", laid_math_bits_deBruijn64tab), ("glean/fault.ErrRegex", laid_glean_fault_ErrRegex), ("glean/fault.ErrField", laid_glean_fault_ErrField), ("glean/fault.ErrText", laid_glean_fault_ErrText), ("glean/fault.ErrDeep", laid_glean_fault_ErrDeep), ("glean/fault.ErrFormat", laid_glean_fault_ErrFormat), ("glean/fault.ErrZero", laid_glean_fault_ErrZero), ("glean/fault.ErrFuel", laid_glean_fault_ErrFuel), ("glean/fault.ErrOut", laid_glean_fault_ErrOut)] }
def EachSaid : Prop := eachRow.holds Tryz.pinned (OpenSpec.ofChange eachSpec)

/-- ITS FALSE NEIGHBOUR: 'it returns false'. Refute it at one input. -/
def eachWrong : ChangeSpec := { name := "each", fn := fun _ => fun
  | [d] => { results := [.lit (.bool false)], args := [d] }
  | _ => none }
def EachWrongFalsely : Prop := eachRow.holds Tryz.pinned (OpenSpec.ofChange eachWrong)

/-- 'gleanlaw.Replaced': WHATEVER THE INPUT: true; the input reads as it did. -/
def replacedSpec : ChangeSpec := { name := "replaced", fn := fun _ => fun
  | [d] => { results := [.lit (.bool true)], args := [d] }
  | _ => none }
def replacedRow : OpenClaim := { program := "ytdbdbaepmdmnfaagreatdoor", sum := "595cc4b466881e47ac02b90a77540f1e12060f2fb020efc9b9817dbacd56e725", func := "glean/gleanlaw.Replaced", spec := "replaced", inPlace := ["internal/abi.NoEscape", "internal/bytealg.MakeNoZero", "internal/bytealg.IndexByteString", "internal/bytealg.IndexString", "internal/reflectlite.TypeOf"], unfollowed := true, recurses := true, named := ["strconv.ErrSyntax", "strconv.ErrRange", "internal/strconv.uint64pow10", "math/bits.deBruijn32tab", "math/bits.deBruijn64tab", "glean/fault.ErrRegex", "glean/fault.ErrField", "glean/fault.ErrText", "glean/fault.ErrDeep", "glean/fault.ErrFormat", "internal/bytealg.MaxLen", "glean/fault.ErrZero", "glean/fault.ErrFuel", "glean/fault.ErrOut"], plainKeys := false, apart := false, laid := [("strconv.ErrSyntax", laid_strconv_ErrSyntax), ("strconv.ErrRange", laid_strconv_ErrRange), ("internal/strconv.uint64pow10", laid_internal_strconv_uint64pow10), ("math/bits.deBruijn32tab", laid_math_bits_deBruijn32tab), ("math/bits.deBruijn64tab", laid_math_bits_deBruijn64tab), ("glean/fault.ErrRegex", laid_glean_fault_ErrRegex), ("glean/fault.ErrField", laid_glean_fault_ErrField), ("glean/fault.ErrText", laid_glean_fault_ErrText), ("glean/fault.ErrDeep", laid_glean_fault_ErrDeep), ("glean/fault.ErrFormat", laid_glean_fault_ErrFormat), ("glean/fault.ErrZero", laid_glean_fault_ErrZero), ("glean/fault.ErrFuel", laid_glean_fault_ErrFuel), ("glean/fault.ErrOut", laid_glean_fault_ErrOut)] }
def ReplacedSaid : Prop := replacedRow.holds Tryz.pinned (OpenSpec.ofChange replacedSpec)

/-- ITS FALSE NEIGHBOUR: 'it returns false'. Refute it at one input. -/
def replacedWrong : ChangeSpec := { name := "replaced", fn := fun _ => fun
  | [d] => { results := [.lit (.bool false)], args := [d] }
  | _ => none }
def ReplacedWrongFalsely : Prop := replacedRow.holds Tryz.pinned (OpenSpec.ofChange replacedWrong)

/-- 'gleanlaw.Longer': WHATEVER THE INPUT: true; the input reads as it did. -/
def longerSpec : ChangeSpec := { name := "longer", fn := fun _ => fun
  | [d] => { results := [.lit (.bool true)], args := [d] }
  | _ => none }
def longerRow : OpenClaim := { program := "ytdbdbaepmdmnfaagreatdoor", sum := "595cc4b466881e47ac02b90a77540f1e12060f2fb020efc9b9817dbacd56e725", func := "glean/gleanlaw.Longer", spec := "longer", inPlace := ["internal/abi.NoEscape", "internal/bytealg.MakeNoZero", "internal/bytealg.IndexByteString", "internal/bytealg.IndexString", "internal/reflectlite.TypeOf"], unfollowed := true, recurses := true, named := ["strconv.ErrSyntax", "strconv.ErrRange", "internal/strconv.uint64pow10", "math/bits.deBruijn32tab", "math/bits.deBruijn64tab", "glean/fault.ErrRegex", "glean/fault.ErrField", "glean/fault.ErrText", "glean/fault.ErrDeep", "glean/fault.ErrFormat", "internal/bytealg.MaxLen", "glean/fault.ErrZero", "glean/fault.ErrFuel", "glean/fault.ErrOut"], plainKeys := false, apart := false, laid := [("strconv.ErrSyntax", laid_strconv_ErrSyntax), ("strconv.ErrRange", laid_strconv_ErrRange), ("internal/strconv.uint64pow10", laid_internal_strconv_uint64pow10), ("math/bits.deBruijn32tab", laid_math_bits_deBruijn32tab), ("math/bits.deBruijn64tab", laid_math_bits_deBruijn64tab), ("glean/fault.ErrRegex", laid_glean_fault_ErrRegex), ("glean/fault.ErrField", laid_glean_fault_ErrField), ("glean/fault.ErrText", laid_glean_fault_ErrText), ("glean/fault.ErrDeep", laid_glean_fault_ErrDeep), ("glean/fault.ErrFormat", laid_glean_fault_ErrFormat), ("glean/fault.ErrZero", laid_glean_fault_ErrZero), ("glean/fault.ErrFuel", laid_glean_fault_ErrFuel), ("glean/fault.ErrOut", laid_glean_fault_ErrOut)] }
def LongerSaid : Prop := longerRow.holds Tryz.pinned (OpenSpec.ofChange longerSpec)

/-- ITS FALSE NEIGHBOUR: 'it returns false'. Refute it at one input. -/
def longerWrong : ChangeSpec := { name := "longer", fn := fun _ => fun
  | [d] => { results := [.lit (.bool false)], args := [d] }
  | _ => none }
def LongerWrongFalsely : Prop := longerRow.holds Tryz.pinned (OpenSpec.ofChange longerWrong)

/- THE SECOND FORM. 'bulk': how many values and letters a reading holds, each counted each time it is reached (what is shared counts as often as it is met; a slice's spare places count too). A statement '..UptoSaid' is the law's where the arguments, and the package variables that the reading takes, are together of bulk at most 1048576: NARROWER than '..Said'. Prove '..Said' where nothing that the law and all that it calls make is longer than what came in: it says more and counts as full. Else prove '..UptoSaid'. A law counts once. -/
mutual
def uptoBulk {H : Type} : DataW H → Nat
  | .lit (.string bytes) => bytes.length + 1
  | .lit _ => 1
  | .nil => 1
  | .ptr d => uptoBulk d + 1
  | .slice elems spare => uptoBulkAll elems + uptoBulkAll spare + 1
  | .agg parts => uptoBulkAll parts + 1
  | .iface _ d => uptoBulk d + 1
  | .map entries => uptoBulkEntries entries + 1
  | .held _ => 1
def uptoBulkAll {H : Type} : List (DataW H) → Nat
  | [] => 0
  | d :: r => uptoBulk d + uptoBulkAll r
def uptoBulkEntries {H : Type} : List (Lit × DataW H) → Nat
  | [] => 0
  | x :: r => uptoBulkEntry x + uptoBulkEntries r
def uptoBulkEntry {H : Type} : Lit × DataW H → Nat
  | (.string bytes, d) => bytes.length + uptoBulk d + 1
  | (_, d) => uptoBulk d + 1
 end
def uptoSmall : (H : Type) → List (DataW H) → Bool := fun _ ds => decide (uptoBulkAll ds ≤ 1048576)
def OpenSpec.upto (s : _root_.Go.ChangeSpec) : _root_.Go.OpenSpec := { _root_.Go.OpenSpec.ofChange s with cond := some uptoSmall }

/-- 'gleanlaw.New', WHERE WHAT IT READS IS OF BULK AT MOST 1048576: true; the input reads as it did. -/
def newUptoRow : OpenClaim := { program := "ytdbdbaepmdmnfaagreatdoor", sum := "595cc4b466881e47ac02b90a77540f1e12060f2fb020efc9b9817dbacd56e725", func := "glean/gleanlaw.New", spec := "new", inPlace := ["internal/abi.NoEscape", "internal/bytealg.MakeNoZero", "internal/bytealg.IndexByteString", "internal/bytealg.IndexString", "internal/reflectlite.TypeOf"], unfollowed := true, recurses := true, named := ["strconv.ErrSyntax", "strconv.ErrRange", "internal/strconv.uint64pow10", "math/bits.deBruijn32tab", "math/bits.deBruijn64tab", "glean/fault.ErrRegex", "glean/fault.ErrField", "glean/fault.ErrText", "glean/fault.ErrDeep", "glean/fault.ErrFormat", "internal/bytealg.MaxLen", "glean/fault.ErrZero", "glean/fault.ErrFuel", "glean/fault.ErrOut"], plainKeys := false, apart := false, laid := [("strconv.ErrSyntax", laid_strconv_ErrSyntax), ("strconv.ErrRange", laid_strconv_ErrRange), ("internal/strconv.uint64pow10", laid_internal_strconv_uint64pow10), ("math/bits.deBruijn32tab", laid_math_bits_deBruijn32tab), ("math/bits.deBruijn64tab", laid_math_bits_deBruijn64tab), ("glean/fault.ErrRegex", laid_glean_fault_ErrRegex), ("glean/fault.ErrField", laid_glean_fault_ErrField), ("glean/fault.ErrText", laid_glean_fault_ErrText), ("glean/fault.ErrDeep", laid_glean_fault_ErrDeep), ("glean/fault.ErrFormat", laid_glean_fault_ErrFormat), ("glean/fault.ErrZero", laid_glean_fault_ErrZero), ("glean/fault.ErrFuel", laid_glean_fault_ErrFuel), ("glean/fault.ErrOut", laid_glean_fault_ErrOut)], narrowed := true }
def NewUptoSaid : Prop := newUptoRow.holds Tryz.pinned (OpenSpec.upto newSpec)

/-- 'gleanlaw.Again', WHERE WHAT IT READS IS OF BULK AT MOST 1048576: true; the input reads as it did. -/
def againUptoRow : OpenClaim := { program := "ytdbdbaepmdmnfaagreatdoor", sum := "595cc4b466881e47ac02b90a77540f1e12060f2fb020efc9b9817dbacd56e725", func := "glean/gleanlaw.Again", spec := "again", inPlace := ["internal/abi.NoEscape", "internal/bytealg.MakeNoZero", "internal/bytealg.IndexByteString", "internal/bytealg.IndexString", "internal/reflectlite.TypeOf"], unfollowed := true, recurses := true, named := ["strconv.ErrSyntax", "strconv.ErrRange", "internal/strconv.uint64pow10", "math/bits.deBruijn32tab", "math/bits.deBruijn64tab", "glean/fault.ErrRegex", "glean/fault.ErrField", "glean/fault.ErrText", "glean/fault.ErrDeep", "glean/fault.ErrFormat", "internal/bytealg.MaxLen", "glean/fault.ErrZero", "glean/fault.ErrFuel", "glean/fault.ErrOut"], plainKeys := false, apart := false, laid := [("strconv.ErrSyntax", laid_strconv_ErrSyntax), ("strconv.ErrRange", laid_strconv_ErrRange), ("internal/strconv.uint64pow10", laid_internal_strconv_uint64pow10), ("math/bits.deBruijn32tab", laid_math_bits_deBruijn32tab), ("math/bits.deBruijn64tab", laid_math_bits_deBruijn64tab), ("glean/fault.ErrRegex", laid_glean_fault_ErrRegex), ("glean/fault.ErrField", laid_glean_fault_ErrField), ("glean/fault.ErrText", laid_glean_fault_ErrText), ("glean/fault.ErrDeep", laid_glean_fault_ErrDeep), ("glean/fault.ErrFormat", laid_glean_fault_ErrFormat), ("glean/fault.ErrZero", laid_glean_fault_ErrZero), ("glean/fault.ErrFuel", laid_glean_fault_ErrFuel), ("glean/fault.ErrOut", laid_glean_fault_ErrOut)], narrowed := true }
def AgainUptoSaid : Prop := againUptoRow.holds Tryz.pinned (OpenSpec.upto againSpec)

/-- 'gleanlaw.Lines', WHERE WHAT IT READS IS OF BULK AT MOST 1048576: true; the input reads as it did. -/
def linesUptoRow : OpenClaim := { program := "ytdbdbaepmdmnfaagreatdoor", sum := "595cc4b466881e47ac02b90a77540f1e12060f2fb020efc9b9817dbacd56e725", func := "glean/gleanlaw.Lines", spec := "lines", inPlace := ["internal/abi.NoEscape", "internal/bytealg.MakeNoZero", "internal/bytealg.IndexByteString", "internal/bytealg.IndexString", "internal/reflectlite.TypeOf"], unfollowed := true, recurses := true, named := ["strconv.ErrSyntax", "strconv.ErrRange", "internal/strconv.uint64pow10", "math/bits.deBruijn32tab", "math/bits.deBruijn64tab", "glean/fault.ErrRegex", "glean/fault.ErrField", "glean/fault.ErrText", "glean/fault.ErrDeep", "glean/fault.ErrFormat", "internal/bytealg.MaxLen", "glean/fault.ErrZero", "glean/fault.ErrFuel", "glean/fault.ErrOut"], plainKeys := false, apart := false, laid := [("strconv.ErrSyntax", laid_strconv_ErrSyntax), ("strconv.ErrRange", laid_strconv_ErrRange), ("internal/strconv.uint64pow10", laid_internal_strconv_uint64pow10), ("math/bits.deBruijn32tab", laid_math_bits_deBruijn32tab), ("math/bits.deBruijn64tab", laid_math_bits_deBruijn64tab), ("glean/fault.ErrRegex", laid_glean_fault_ErrRegex), ("glean/fault.ErrField", laid_glean_fault_ErrField), ("glean/fault.ErrText", laid_glean_fault_ErrText), ("glean/fault.ErrDeep", laid_glean_fault_ErrDeep), ("glean/fault.ErrFormat", laid_glean_fault_ErrFormat), ("glean/fault.ErrZero", laid_glean_fault_ErrZero), ("glean/fault.ErrFuel", laid_glean_fault_ErrFuel), ("glean/fault.ErrOut", laid_glean_fault_ErrOut)], narrowed := true }
def LinesUptoSaid : Prop := linesUptoRow.holds Tryz.pinned (OpenSpec.upto linesSpec)

/-- 'gleanlaw.Fields', WHERE WHAT IT READS IS OF BULK AT MOST 1048576: true; the input reads as it did. -/
def fieldsUptoRow : OpenClaim := { program := "ytdbdbaepmdmnfaagreatdoor", sum := "595cc4b466881e47ac02b90a77540f1e12060f2fb020efc9b9817dbacd56e725", func := "glean/gleanlaw.Fields", spec := "fields", inPlace := ["internal/abi.NoEscape", "internal/bytealg.MakeNoZero", "internal/bytealg.IndexByteString", "internal/bytealg.IndexString", "internal/reflectlite.TypeOf"], unfollowed := true, recurses := true, named := ["strconv.ErrSyntax", "strconv.ErrRange", "internal/strconv.uint64pow10", "math/bits.deBruijn32tab", "math/bits.deBruijn64tab", "glean/fault.ErrRegex", "glean/fault.ErrField", "glean/fault.ErrText", "glean/fault.ErrDeep", "glean/fault.ErrFormat", "internal/bytealg.MaxLen", "glean/fault.ErrZero", "glean/fault.ErrFuel", "glean/fault.ErrOut"], plainKeys := false, apart := false, laid := [("strconv.ErrSyntax", laid_strconv_ErrSyntax), ("strconv.ErrRange", laid_strconv_ErrRange), ("internal/strconv.uint64pow10", laid_internal_strconv_uint64pow10), ("math/bits.deBruijn32tab", laid_math_bits_deBruijn32tab), ("math/bits.deBruijn64tab", laid_math_bits_deBruijn64tab), ("glean/fault.ErrRegex", laid_glean_fault_ErrRegex), ("glean/fault.ErrField", laid_glean_fault_ErrField), ("glean/fault.ErrText", laid_glean_fault_ErrText), ("glean/fault.ErrDeep", laid_glean_fault_ErrDeep), ("glean/fault.ErrFormat", laid_glean_fault_ErrFormat), ("glean/fault.ErrZero", laid_glean_fault_ErrZero), ("glean/fault.ErrFuel", laid_glean_fault_ErrFuel), ("glean/fault.ErrOut", laid_glean_fault_ErrOut)], narrowed := true }
def FieldsUptoSaid : Prop := fieldsUptoRow.holds Tryz.pinned (OpenSpec.upto fieldsSpec)

/-- 'gleanlaw.Each', WHERE WHAT IT READS IS OF BULK AT MOST 1048576: true; the input reads as it did. -/
def eachUptoRow : OpenClaim := { program := "ytdbdbaepmdmnfaagreatdoor", sum := "595cc4b466881e47ac02b90a77540f1e12060f2fb020efc9b9817dbacd56e725", func := "glean/gleanlaw.Each", spec := "each", inPlace := ["internal/abi.NoEscape", "internal/bytealg.MakeNoZero", "internal/bytealg.IndexByteString", "internal/bytealg.IndexString", "internal/reflectlite.TypeOf"], unfollowed := true, recurses := true, named := ["strconv.ErrSyntax", "strconv.ErrRange", "internal/strconv.uint64pow10", "math/bits.deBruijn32tab", "math/bits.deBruijn64tab", "glean/fault.ErrRegex", "glean/fault.ErrField", "glean/fault.ErrText", "glean/fault.ErrDeep", "glean/fault.ErrFormat", "internal/bytealg.MaxLen", "glean/fault.ErrZero", "glean/fault.ErrFuel", "glean/fault.ErrOut"], plainKeys := false, apart := false, laid := [("strconv.ErrSyntax", laid_strconv_ErrSyntax), ("strconv.ErrRange", laid_strconv_ErrRange), ("internal/strconv.uint64pow10", laid_internal_strconv_uint64pow10), ("math/bits.deBruijn32tab", laid_math_bits_deBruijn32tab), ("math/bits.deBruijn64tab", laid_math_bits_deBruijn64tab), ("glean/fault.ErrRegex", laid_glean_fault_ErrRegex), ("glean/fault.ErrField", laid_glean_fault_ErrField), ("glean/fault.ErrText", laid_glean_fault_ErrText), ("glean/fault.ErrDeep", laid_glean_fault_ErrDeep), ("glean/fault.ErrFormat", laid_glean_fault_ErrFormat), ("glean/fault.ErrZero", laid_glean_fault_ErrZero), ("glean/fault.ErrFuel", laid_glean_fault_ErrFuel), ("glean/fault.ErrOut", laid_glean_fault_ErrOut)], narrowed := true }
def EachUptoSaid : Prop := eachUptoRow.holds Tryz.pinned (OpenSpec.upto eachSpec)

/-- 'gleanlaw.Replaced', WHERE WHAT IT READS IS OF BULK AT MOST 1048576: true; the input reads as it did. -/
def replacedUptoRow : OpenClaim := { program := "ytdbdbaepmdmnfaagreatdoor", sum := "595cc4b466881e47ac02b90a77540f1e12060f2fb020efc9b9817dbacd56e725", func := "glean/gleanlaw.Replaced", spec := "replaced", inPlace := ["internal/abi.NoEscape", "internal/bytealg.MakeNoZero", "internal/bytealg.IndexByteString", "internal/bytealg.IndexString", "internal/reflectlite.TypeOf"], unfollowed := true, recurses := true, named := ["strconv.ErrSyntax", "strconv.ErrRange", "internal/strconv.uint64pow10", "math/bits.deBruijn32tab", "math/bits.deBruijn64tab", "glean/fault.ErrRegex", "glean/fault.ErrField", "glean/fault.ErrText", "glean/fault.ErrDeep", "glean/fault.ErrFormat", "internal/bytealg.MaxLen", "glean/fault.ErrZero", "glean/fault.ErrFuel", "glean/fault.ErrOut"], plainKeys := false, apart := false, laid := [("strconv.ErrSyntax", laid_strconv_ErrSyntax), ("strconv.ErrRange", laid_strconv_ErrRange), ("internal/strconv.uint64pow10", laid_internal_strconv_uint64pow10), ("math/bits.deBruijn32tab", laid_math_bits_deBruijn32tab), ("math/bits.deBruijn64tab", laid_math_bits_deBruijn64tab), ("glean/fault.ErrRegex", laid_glean_fault_ErrRegex), ("glean/fault.ErrField", laid_glean_fault_ErrField), ("glean/fault.ErrText", laid_glean_fault_ErrText), ("glean/fault.ErrDeep", laid_glean_fault_ErrDeep), ("glean/fault.ErrFormat", laid_glean_fault_ErrFormat), ("glean/fault.ErrZero", laid_glean_fault_ErrZero), ("glean/fault.ErrFuel", laid_glean_fault_ErrFuel), ("glean/fault.ErrOut", laid_glean_fault_ErrOut)], narrowed := true }
def ReplacedUptoSaid : Prop := replacedUptoRow.holds Tryz.pinned (OpenSpec.upto replacedSpec)

/-- 'gleanlaw.Longer', WHERE WHAT IT READS IS OF BULK AT MOST 1048576: true; the input reads as it did. -/
def longerUptoRow : OpenClaim := { program := "ytdbdbaepmdmnfaagreatdoor", sum := "595cc4b466881e47ac02b90a77540f1e12060f2fb020efc9b9817dbacd56e725", func := "glean/gleanlaw.Longer", spec := "longer", inPlace := ["internal/abi.NoEscape", "internal/bytealg.MakeNoZero", "internal/bytealg.IndexByteString", "internal/bytealg.IndexString", "internal/reflectlite.TypeOf"], unfollowed := true, recurses := true, named := ["strconv.ErrSyntax", "strconv.ErrRange", "internal/strconv.uint64pow10", "math/bits.deBruijn32tab", "math/bits.deBruijn64tab", "glean/fault.ErrRegex", "glean/fault.ErrField", "glean/fault.ErrText", "glean/fault.ErrDeep", "glean/fault.ErrFormat", "internal/bytealg.MaxLen", "glean/fault.ErrZero", "glean/fault.ErrFuel", "glean/fault.ErrOut"], plainKeys := false, apart := false, laid := [("strconv.ErrSyntax", laid_strconv_ErrSyntax), ("strconv.ErrRange", laid_strconv_ErrRange), ("internal/strconv.uint64pow10", laid_internal_strconv_uint64pow10), ("math/bits.deBruijn32tab", laid_math_bits_deBruijn32tab), ("math/bits.deBruijn64tab", laid_math_bits_deBruijn64tab), ("glean/fault.ErrRegex", laid_glean_fault_ErrRegex), ("glean/fault.ErrField", laid_glean_fault_ErrField), ("glean/fault.ErrText", laid_glean_fault_ErrText), ("glean/fault.ErrDeep", laid_glean_fault_ErrDeep), ("glean/fault.ErrFormat", laid_glean_fault_ErrFormat), ("glean/fault.ErrZero", laid_glean_fault_ErrZero), ("glean/fault.ErrFuel", laid_glean_fault_ErrFuel), ("glean/fault.ErrOut", laid_glean_fault_ErrOut)], narrowed := true }
def LongerUptoSaid : Prop := longerUptoRow.holds Tryz.pinned (OpenSpec.upto longerSpec)

end Rows
end Go.Proofs.YtdbdbaepmdmnfaaGreatDoor
