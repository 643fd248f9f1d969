/-
  NARROWER THAN 'FOR EVERY INPUT', by the rows' own cells (each row's printed sentence says how): FnSigns: laid · FnLeaves: laid · FnExactVectorText: laid · FnExactReadVector: laid · FnExactNumbersText: laid · FnExactReadNumbers: laid · FnExactListText: laid · FnExactReadList: laid · FnExactOneNode: laid · FnExactJoinShapes: laid · FnExactWrapShape: laid · FnExactUnionOf: laid · FnExactPartOf: laid · FnExactFactorOf: laid.
  DERIVED. THE GIVEN ROWS OF THIS SEAT. 14 by the template 'for every input the law returns true; each argument reads behind the call as it read before'; 0 by the template 'total and deterministic' (their statements: YtojdncdbagbloaaDoorTotals.lean).
  GIVEN WITH THE SEED: the statements are not yours to turn. If you find one false, say at which input.
  Laid BY PROGRAM, IN A SANDBOX (cutbox-rows.mjs): the forced cells as the released guide's own fill.sh prints them over the translation 5d1c62aa419916d6… (all of the seat's roots in one cut). By AI agents, Wed Nov 11 2026. No macro, syntax, notation, axiom, sorry.
-/
import Derived.Test.YtojdncdbagbloaaDoorChecked
import GoSem.PinnedTables
import GoSem.Claim
import GoSem.ClaimJoined
import GoSem.ClaimMapViews
import Derived.JoinedTies
import Derived.KernelRfl
namespace Go.Proofs.YtojdncdbagbloaaDoor
/- THE CELL 'sum', in the pinned program and in every row, IS THE sha256 OF THE DUMP (.gsa) THAT YtojdncdbagbloaaDoorProg.lean LOADS. Nothing in Lean hashes anything: it is a label: what it is worth is what the hold of that sum in a sandbox is worth. -/
noncomputable def Tryd.pinned : Pinned := { name := "ytojdncdbagbloaadoor", sum := "5d1c62aa419916d68eba1000f0dddb75145feab5b900877eabe8d2f12dbf2ffd", checked := Tryd.checked }
namespace Rows
def none {H : Type} : Left H := { results := [], args := [] }

/- WHAT THE LISTED PACKAGE-LEVEL VARIABLES READ AS WHEN THE CALL BEGINS. Each datum BY PROGRAM (the guide's laid-datum.mjs) off the statement by which the dump's own 'gosem.cut.vars' lays the variable. In a bare row this is a premise. The card (YtojdncdbagbloaaDoorCards.lean) ties it to the program's text. -/
def laid_loop_example_g01193_impl_rules {H : Type} : DataW H := .agg [.agg [.lit (.int .i64 0), .lit (.bool false), .lit (.int .i64 1), .lit (.int .i64 1)], .agg [.lit (.int .i64 0), .lit (.bool false), .lit (.int .i64 3), .lit (.int .i64 1)], .agg [.lit (.int .i64 0), .lit (.bool false), .lit (.int .i64 2), .lit (.int .i64 1)], .agg [.lit (.int .i64 0), .lit (.bool false), .lit (.int .i64 2), .lit (.int .i64 1)], .agg [.lit (.int .i64 0), .lit (.bool false), .lit (.int .i64 4), .lit (.int .i64 0)], .agg [.lit (.int .i64 2), .lit (.bool false), .lit (.int .i64 0), .lit (.int .i64 0)], .agg [.lit (.int .i64 2), .lit (.bool false), .lit (.int .i64 0), .lit (.int .i64 0)], .agg [.lit (.int .i64 2), .lit (.bool false), .lit (.int .i64 0), .lit (.int .i64 0)], .agg [.lit (.int .i64 2), .lit (.bool false), .lit (.int .i64 1), .lit (.int .i64 2)], .agg [.lit (.int .i64 1), .lit (.bool false), .lit (.int .i64 3), .lit (.int .i64 0)], .agg [.lit (.int .i64 1), .lit (.bool false), .lit (.int .i64 1), .lit (.int .i64 2)], .agg [.lit (.int .i64 1), .lit (.bool false), .lit (.int .i64 3), .lit (.int .i64 2)], .agg [.lit (.int .i64 1), .lit (.bool true), .lit (.int .i64 1), .lit (.int .i64 0)], .agg [.lit (.int .i64 1), .lit (.bool true), .lit (.int .i64 0), .lit (.int .i64 0)], .agg [.lit (.int .i64 1), .lit (.bool true), .lit (.int .i64 1), .lit (.int .i64 2)], .agg [.lit (.int .i64 1), .lit (.bool false), .lit (.int .i64 1), .lit (.int .i64 0)], .agg [.lit (.int .i64 1), .lit (.bool false), .lit (.int .i64 1), .lit (.int .i64 1)]]
def laid_math_bits_deBruijn32tab {H : Type} : DataW H := .agg [.lit (.int .u8 0), .lit (.int .u8 1), .lit (.int .u8 28), .lit (.int .u8 2), .lit (.int .u8 29), .lit (.int .u8 14), .lit (.int .u8 24), .lit (.int .u8 3), .lit (.int .u8 30), .lit (.int .u8 22), .lit (.int .u8 20), .lit (.int .u8 15), .lit (.int .u8 25), .lit (.int .u8 17), .lit (.int .u8 4), .lit (.int .u8 8), .lit (.int .u8 31), .lit (.int .u8 27), .lit (.int .u8 13), .lit (.int .u8 23), .lit (.int .u8 21), .lit (.int .u8 19), .lit (.int .u8 16), .lit (.int .u8 7), .lit (.int .u8 26), .lit (.int .u8 12), .lit (.int .u8 18), .lit (.int .u8 6), .lit (.int .u8 11), .lit (.int .u8 5), .lit (.int .u8 10), .lit (.int .u8 9)]
def laid_math_bits_deBruijn64tab {H : Type} : DataW H := .agg [.lit (.int .u8 0), .lit (.int .u8 1), .lit (.int .u8 56), .lit (.int .u8 2), .lit (.int .u8 57), .lit (.int .u8 49), .lit (.int .u8 28), .lit (.int .u8 3), .lit (.int .u8 61), .lit (.int .u8 58), .lit (.int .u8 42), .lit (.int .u8 50), .lit (.int .u8 38), .lit (.int .u8 29), .lit (.int .u8 17), .lit (.int .u8 4), .lit (.int .u8 62), .lit (.int .u8 47), .lit (.int .u8 59), .lit (.int .u8 36), .lit (.int .u8 45), .lit (.int .u8 43), .lit (.int .u8 51), .lit (.int .u8 22), .lit (.int .u8 53), .lit (.int .u8 39), .lit (.int .u8 33), .lit (.int .u8 30), .lit (.int .u8 24), .lit (.int .u8 18), .lit (.int .u8 12), .lit (.int .u8 5), .lit (.int .u8 63), .lit (.int .u8 55), .lit (.int .u8 48), .lit (.int .u8 27), .lit (.int .u8 60), .lit (.int .u8 41), .lit (.int .u8 37), .lit (.int .u8 16), .lit (.int .u8 46), .lit (.int .u8 35), .lit (.int .u8 44), .lit (.int .u8 21), .lit (.int .u8 52), .lit (.int .u8 32), .lit (.int .u8 23), .lit (.int .u8 11), .lit (.int .u8 54), .lit (.int .u8 26), .lit (.int .u8 40), .lit (.int .u8 15), .lit (.int .u8 34), .lit (.int .u8 20), .lit (.int .u8 31), .lit (.int .u8 10), .lit (.int .u8 25), .lit (.int .u8 14), .lit (.int .u8 19), .lit (.int .u8 9), .lit (.int .u8 13), .lit (.int .u8 8), .lit (.int .u8 7), .lit (.int .u8 6)]
def laid_internal_strconv_uint64pow10 {H : Type} : DataW H := .agg [.lit (.int .u64 1), .lit (.int .u64 10), .lit (.int .u64 100), .lit (.int .u64 1000), .lit (.int .u64 10000), .lit (.int .u64 100000), .lit (.int .u64 1000000), .lit (.int .u64 10000000), .lit (.int .u64 100000000), .lit (.int .u64 1000000000), .lit (.int .u64 10000000000), .lit (.int .u64 100000000000), .lit (.int .u64 1000000000000), .lit (.int .u64 10000000000000), .lit (.int .u64 100000000000000), .lit (.int .u64 1000000000000000), .lit (.int .u64 10000000000000000), .lit (.int .u64 100000000000000000), .lit (.int .u64 1000000000000000000), .lit (.int .u64 10000000000000000000)]
def laid_unicode_utf8_acceptRanges {H : Type} : DataW H := .agg [.agg [.lit (.int .u8 128), .lit (.int .u8 191)], .agg [.lit (.int .u8 160), .lit (.int .u8 191)], .agg [.lit (.int .u8 128), .lit (.int .u8 159)], .agg [.lit (.int .u8 144), .lit (.int .u8 191)], .agg [.lit (.int .u8 128), .lit (.int .u8 143)], .agg [.lit (.int .u8 0), .lit (.int .u8 0)], .agg [.lit (.int .u8 0), .lit (.int .u8 0)], .agg [.lit (.int .u8 0), .lit (.int .u8 0)], .agg [.lit (.int .u8 0), .lit (.int .u8 0)], .agg [.lit (.int .u8 0), .lit (.int .u8 0)], .agg [.lit (.int .u8 0), .lit (.int .u8 0)], .agg [.lit (.int .u8 0), .lit (.int .u8 0)], .agg [.lit (.int .u8 0), .lit (.int .u8 0)], .agg [.lit (.int .u8 0), .lit (.int .u8 0)], .agg [.lit (.int .u8 0), .lit (.int .u8 0)], .agg [.lit (.int .u8 0), .lit (.int .u8 0)]]
def laid_strconv_ErrRange {H : Type} : DataW H := .iface "*errors.errorString" (.ptr (.agg [.lit (.string [118, 97, 108, 117, 101, 32, 111, 117, 116, 32, 111, 102, 32, 114, 97, 110, 103, 101])]))
def laid_strconv_ErrSyntax {H : Type} : DataW H := .iface "*errors.errorString" (.ptr (.agg [.lit (.string [105, 110, 118, 97, 108, 105, 100, 32, 115, 121, 110, 116, 97, 120])]))
/-- One of Go's own tables, pinned by name: the form's constant. -/
def laid_unicode_utf8_first : DataW Unit := Go.Pinned.utf8First

/-- 'laws.FnSigns': WHATEVER THE INPUT: true; the input reads as it did. -/
def fnSignsSpec : ChangeSpec := { name := "fnSigns", vars := ["loop.example/g01193/impl.rules"], fn := fun _ => fun
  | [d1, d2, g1] => { results := [.lit (.bool true)], args := [d1, d2], vars := [g1] }
  | _ => none }
def fnSignsRow : OpenClaim := { program := "ytojdncdbagbloaadoor", sum := "5d1c62aa419916d68eba1000f0dddb75145feab5b900877eabe8d2f12dbf2ffd", func := "loop.example/g01193/laws.FnSigns", spec := "fnSigns", inPlace := ["math.Float64bits", "math.Float64frombits", "math.Float32bits", "math.Float32frombits"], unfollowed := true, recurses := true, named := ["loop.example/g01193/impl.rules"], apart := false, laid := [("loop.example/g01193/impl.rules", laid_loop_example_g01193_impl_rules)] }
def FnSignsSaid : Prop := fnSignsRow.holds Tryd.pinned (OpenSpec.ofChange fnSignsSpec)

/-- ITS FALSE NEIGHBOUR: 'it returns false'. Refute it at one input. -/
def fnSignsWrong : ChangeSpec := { name := "fnSigns", vars := ["loop.example/g01193/impl.rules"], fn := fun _ => fun
  | [d1, d2, g1] => { results := [.lit (.bool false)], args := [d1, d2], vars := [g1] }
  | _ => none }
def FnSignsWrongFalsely : Prop := fnSignsRow.holds Tryd.pinned (OpenSpec.ofChange fnSignsWrong)

/-- 'laws.FnLeaves': WHATEVER THE INPUT: true; the input reads as it did. -/
def fnLeavesSpec : ChangeSpec := { name := "fnLeaves", vars := ["loop.example/g01193/impl.rules"], fn := fun _ => fun
  | [d1, d2, g1] => { results := [.lit (.bool true)], args := [d1, d2], vars := [g1] }
  | _ => none }
def fnLeavesRow : OpenClaim := { program := "ytojdncdbagbloaadoor", sum := "5d1c62aa419916d68eba1000f0dddb75145feab5b900877eabe8d2f12dbf2ffd", func := "loop.example/g01193/laws.FnLeaves", spec := "fnLeaves", inPlace := ["math.Float64bits", "math.Float64frombits", "math.Float32bits", "math.Float32frombits"], unfollowed := true, recurses := true, named := ["loop.example/g01193/impl.rules"], apart := false, laid := [("loop.example/g01193/impl.rules", laid_loop_example_g01193_impl_rules)] }
def FnLeavesSaid : Prop := fnLeavesRow.holds Tryd.pinned (OpenSpec.ofChange fnLeavesSpec)

/-- ITS FALSE NEIGHBOUR: 'it returns false'. Refute it at one input. -/
def fnLeavesWrong : ChangeSpec := { name := "fnLeaves", vars := ["loop.example/g01193/impl.rules"], fn := fun _ => fun
  | [d1, d2, g1] => { results := [.lit (.bool false)], args := [d1, d2], vars := [g1] }
  | _ => none }
def FnLeavesWrongFalsely : Prop := fnLeavesRow.holds Tryd.pinned (OpenSpec.ofChange fnLeavesWrong)

/-- 'laws.FnExactVectorText': WHATEVER THE INPUT: true; the input reads as it did. -/
def fnExactVectorTextSpec : ChangeSpec := { name := "fnExactVectorText", fn := fun _ => fun
  | [d] => { results := [.lit (.bool true)], args := [d] }
  | _ => none }
def fnExactVectorTextRow : OpenClaim := { program := "ytojdncdbagbloaadoor", sum := "5d1c62aa419916d68eba1000f0dddb75145feab5b900877eabe8d2f12dbf2ffd", func := "loop.example/g01193/laws.FnExactVectorText", spec := "fnExactVectorText", inPlace := ["math.Float32bits", "internal/abi.NoEscape", "internal/bytealg.MakeNoZero"], named := ["internal/strconv.uint64pow10", "math/bits.deBruijn32tab", "math/bits.deBruijn64tab"], apart := false, laid := [("math/bits.deBruijn32tab", laid_math_bits_deBruijn32tab), ("math/bits.deBruijn64tab", laid_math_bits_deBruijn64tab), ("internal/strconv.uint64pow10", laid_internal_strconv_uint64pow10)] }
def FnExactVectorTextSaid : Prop := fnExactVectorTextRow.holds Tryd.pinned (OpenSpec.ofChange fnExactVectorTextSpec)

/-- ITS FALSE NEIGHBOUR: 'it returns false'. Refute it at one input. -/
def fnExactVectorTextWrong : ChangeSpec := { name := "fnExactVectorText", fn := fun _ => fun
  | [d] => { results := [.lit (.bool false)], args := [d] }
  | _ => none }
def FnExactVectorTextWrongFalsely : Prop := fnExactVectorTextRow.holds Tryd.pinned (OpenSpec.ofChange fnExactVectorTextWrong)

/-- 'laws.FnExactReadVector': WHATEVER THE INPUT: true; the input reads as it did. -/
def fnExactReadVectorSpec : ChangeSpec := { name := "fnExactReadVector", fn := fun _ => fun
  | [d] => { results := [.lit (.bool true)], args := [d] }
  | _ => none }
def fnExactReadVectorRow : OpenClaim := { program := "ytojdncdbagbloaadoor", sum := "5d1c62aa419916d68eba1000f0dddb75145feab5b900877eabe8d2f12dbf2ffd", func := "loop.example/g01193/laws.FnExactReadVector", spec := "fnExactReadVector", inPlace := ["math.Float32frombits", "math.Float32bits", "internal/bytealg.CountString", "internal/bytealg.IndexByteString", "internal/bytealg.IndexString", "internal/abi.NoEscape", "internal/bytealg.MakeNoZero"], named := ["unicode/utf8.first", "unicode/utf8.acceptRanges", "internal/bytealg.MaxLen", "strconv.ErrSyntax", "strconv.ErrRange", "internal/strconv.uint64pow10", "math/bits.deBruijn32tab", "math/bits.deBruijn64tab"], apart := false, laid := [("math/bits.deBruijn32tab", laid_math_bits_deBruijn32tab), ("math/bits.deBruijn64tab", laid_math_bits_deBruijn64tab), ("internal/strconv.uint64pow10", laid_internal_strconv_uint64pow10), ("unicode/utf8.acceptRanges", laid_unicode_utf8_acceptRanges), ("strconv.ErrRange", laid_strconv_ErrRange), ("strconv.ErrSyntax", laid_strconv_ErrSyntax), ("unicode/utf8.first", laid_unicode_utf8_first)] }
def FnExactReadVectorSaid : Prop := fnExactReadVectorRow.holds Tryd.pinned (OpenSpec.ofChange fnExactReadVectorSpec)

/-- ITS FALSE NEIGHBOUR: 'it returns false'. Refute it at one input. -/
def fnExactReadVectorWrong : ChangeSpec := { name := "fnExactReadVector", fn := fun _ => fun
  | [d] => { results := [.lit (.bool false)], args := [d] }
  | _ => none }
def FnExactReadVectorWrongFalsely : Prop := fnExactReadVectorRow.holds Tryd.pinned (OpenSpec.ofChange fnExactReadVectorWrong)

/-- 'laws.FnExactNumbersText': WHATEVER THE INPUT: true; the input reads as it did. -/
def fnExactNumbersTextSpec : ChangeSpec := { name := "fnExactNumbersText", fn := fun _ => fun
  | [d] => { results := [.lit (.bool true)], args := [d] }
  | _ => none }
def fnExactNumbersTextRow : OpenClaim := { program := "ytojdncdbagbloaadoor", sum := "5d1c62aa419916d68eba1000f0dddb75145feab5b900877eabe8d2f12dbf2ffd", func := "loop.example/g01193/laws.FnExactNumbersText", spec := "fnExactNumbersText", inPlace := ["math.Float32bits", "internal/abi.NoEscape", "internal/bytealg.MakeNoZero"], named := ["internal/strconv.uint64pow10", "math/bits.deBruijn32tab", "math/bits.deBruijn64tab"], apart := false, laid := [("math/bits.deBruijn32tab", laid_math_bits_deBruijn32tab), ("math/bits.deBruijn64tab", laid_math_bits_deBruijn64tab), ("internal/strconv.uint64pow10", laid_internal_strconv_uint64pow10)] }
def FnExactNumbersTextSaid : Prop := fnExactNumbersTextRow.holds Tryd.pinned (OpenSpec.ofChange fnExactNumbersTextSpec)

/-- ITS FALSE NEIGHBOUR: 'it returns false'. Refute it at one input. -/
def fnExactNumbersTextWrong : ChangeSpec := { name := "fnExactNumbersText", fn := fun _ => fun
  | [d] => { results := [.lit (.bool false)], args := [d] }
  | _ => none }
def FnExactNumbersTextWrongFalsely : Prop := fnExactNumbersTextRow.holds Tryd.pinned (OpenSpec.ofChange fnExactNumbersTextWrong)

/-- 'laws.FnExactReadNumbers': WHATEVER THE INPUT: true; the input reads as it did. -/
def fnExactReadNumbersSpec : ChangeSpec := { name := "fnExactReadNumbers", fn := fun _ => fun
  | [d] => { results := [.lit (.bool true)], args := [d] }
  | _ => none }
def fnExactReadNumbersRow : OpenClaim := { program := "ytojdncdbagbloaadoor", sum := "5d1c62aa419916d68eba1000f0dddb75145feab5b900877eabe8d2f12dbf2ffd", func := "loop.example/g01193/laws.FnExactReadNumbers", spec := "fnExactReadNumbers", inPlace := ["math.Float32frombits", "math.Float32bits", "internal/bytealg.CountString", "internal/bytealg.IndexByteString", "internal/bytealg.IndexString", "internal/abi.NoEscape", "internal/bytealg.MakeNoZero"], named := ["unicode/utf8.first", "unicode/utf8.acceptRanges", "internal/bytealg.MaxLen", "strconv.ErrSyntax", "strconv.ErrRange", "internal/strconv.uint64pow10", "math/bits.deBruijn32tab", "math/bits.deBruijn64tab"], apart := false, laid := [("math/bits.deBruijn32tab", laid_math_bits_deBruijn32tab), ("math/bits.deBruijn64tab", laid_math_bits_deBruijn64tab), ("internal/strconv.uint64pow10", laid_internal_strconv_uint64pow10), ("unicode/utf8.acceptRanges", laid_unicode_utf8_acceptRanges), ("strconv.ErrRange", laid_strconv_ErrRange), ("strconv.ErrSyntax", laid_strconv_ErrSyntax), ("unicode/utf8.first", laid_unicode_utf8_first)] }
def FnExactReadNumbersSaid : Prop := fnExactReadNumbersRow.holds Tryd.pinned (OpenSpec.ofChange fnExactReadNumbersSpec)

/-- ITS FALSE NEIGHBOUR: 'it returns false'. Refute it at one input. -/
def fnExactReadNumbersWrong : ChangeSpec := { name := "fnExactReadNumbers", fn := fun _ => fun
  | [d] => { results := [.lit (.bool false)], args := [d] }
  | _ => none }
def FnExactReadNumbersWrongFalsely : Prop := fnExactReadNumbersRow.holds Tryd.pinned (OpenSpec.ofChange fnExactReadNumbersWrong)

/-- 'laws.FnExactListText': WHATEVER THE INPUT: true; the input reads as it did. -/
def fnExactListTextSpec : ChangeSpec := { name := "fnExactListText", fn := fun _ => fun
  | [d] => { results := [.lit (.bool true)], args := [d] }
  | _ => none }
def fnExactListTextRow : OpenClaim := { program := "ytojdncdbagbloaadoor", sum := "5d1c62aa419916d68eba1000f0dddb75145feab5b900877eabe8d2f12dbf2ffd", func := "loop.example/g01193/laws.FnExactListText", spec := "fnExactListText", inPlace := ["internal/abi.NoEscape", "internal/bytealg.MakeNoZero"], named := ["internal/strconv.uint64pow10", "math/bits.deBruijn32tab", "math/bits.deBruijn64tab"], apart := false, laid := [("math/bits.deBruijn32tab", laid_math_bits_deBruijn32tab), ("math/bits.deBruijn64tab", laid_math_bits_deBruijn64tab), ("internal/strconv.uint64pow10", laid_internal_strconv_uint64pow10)] }
def FnExactListTextSaid : Prop := fnExactListTextRow.holds Tryd.pinned (OpenSpec.ofChange fnExactListTextSpec)

/-- ITS FALSE NEIGHBOUR: 'it returns false'. Refute it at one input. -/
def fnExactListTextWrong : ChangeSpec := { name := "fnExactListText", fn := fun _ => fun
  | [d] => { results := [.lit (.bool false)], args := [d] }
  | _ => none }
def FnExactListTextWrongFalsely : Prop := fnExactListTextRow.holds Tryd.pinned (OpenSpec.ofChange fnExactListTextWrong)

/-- 'laws.FnExactReadList': WHATEVER THE INPUT: true; the input reads as it did. -/
def fnExactReadListSpec : ChangeSpec := { name := "fnExactReadList", fn := fun _ => fun
  | [d] => { results := [.lit (.bool true)], args := [d] }
  | _ => none }
def fnExactReadListRow : OpenClaim := { program := "ytojdncdbagbloaadoor", sum := "5d1c62aa419916d68eba1000f0dddb75145feab5b900877eabe8d2f12dbf2ffd", func := "loop.example/g01193/laws.FnExactReadList", spec := "fnExactReadList", inPlace := ["internal/bytealg.CountString", "internal/bytealg.IndexByteString", "internal/bytealg.IndexString"], named := ["unicode/utf8.first", "unicode/utf8.acceptRanges", "internal/bytealg.MaxLen", "strconv.ErrSyntax", "strconv.ErrRange", "internal/strconv.uint64pow10", "math/bits.deBruijn32tab", "math/bits.deBruijn64tab"], apart := false, laid := [("math/bits.deBruijn32tab", laid_math_bits_deBruijn32tab), ("math/bits.deBruijn64tab", laid_math_bits_deBruijn64tab), ("internal/strconv.uint64pow10", laid_internal_strconv_uint64pow10), ("unicode/utf8.acceptRanges", laid_unicode_utf8_acceptRanges), ("strconv.ErrRange", laid_strconv_ErrRange), ("strconv.ErrSyntax", laid_strconv_ErrSyntax), ("unicode/utf8.first", laid_unicode_utf8_first)] }
def FnExactReadListSaid : Prop := fnExactReadListRow.holds Tryd.pinned (OpenSpec.ofChange fnExactReadListSpec)

/-- ITS FALSE NEIGHBOUR: 'it returns false'. Refute it at one input. -/
def fnExactReadListWrong : ChangeSpec := { name := "fnExactReadList", fn := fun _ => fun
  | [d] => { results := [.lit (.bool false)], args := [d] }
  | _ => none }
def FnExactReadListWrongFalsely : Prop := fnExactReadListRow.holds Tryd.pinned (OpenSpec.ofChange fnExactReadListWrong)

/-- 'laws.FnExactOneNode': WHATEVER THE INPUT: true; the input reads as it did. -/
def fnExactOneNodeSpec : ChangeSpec := { name := "fnExactOneNode", vars := ["loop.example/g01193/impl.rules"], fn := fun _ => fun
  | [d1, d2, g1] => { results := [.lit (.bool true)], args := [d1, d2], vars := [g1] }
  | _ => none }
def fnExactOneNodeRow : OpenClaim := { program := "ytojdncdbagbloaadoor", sum := "5d1c62aa419916d68eba1000f0dddb75145feab5b900877eabe8d2f12dbf2ffd", func := "loop.example/g01193/laws.FnExactOneNode", spec := "fnExactOneNode", inPlace := ["math.Float64bits", "math.Float64frombits"], named := ["loop.example/g01193/impl.rules"], apart := false, laid := [("loop.example/g01193/impl.rules", laid_loop_example_g01193_impl_rules)] }
def FnExactOneNodeSaid : Prop := fnExactOneNodeRow.holds Tryd.pinned (OpenSpec.ofChange fnExactOneNodeSpec)

/-- ITS FALSE NEIGHBOUR: 'it returns false'. Refute it at one input. -/
def fnExactOneNodeWrong : ChangeSpec := { name := "fnExactOneNode", vars := ["loop.example/g01193/impl.rules"], fn := fun _ => fun
  | [d1, d2, g1] => { results := [.lit (.bool false)], args := [d1, d2], vars := [g1] }
  | _ => none }
def FnExactOneNodeWrongFalsely : Prop := fnExactOneNodeRow.holds Tryd.pinned (OpenSpec.ofChange fnExactOneNodeWrong)

/-- 'laws.FnExactJoinShapes': WHATEVER THE INPUT: true; the input reads as it did. -/
def fnExactJoinShapesSpec : ChangeSpec := { name := "fnExactJoinShapes", vars := ["loop.example/g01193/impl.rules"], fn := fun _ => fun
  | [d1, d2, d3, d4, g1] => { results := [.lit (.bool true)], args := [d1, d2, d3, d4], vars := [g1] }
  | _ => none }
def fnExactJoinShapesRow : OpenClaim := { program := "ytojdncdbagbloaadoor", sum := "5d1c62aa419916d68eba1000f0dddb75145feab5b900877eabe8d2f12dbf2ffd", func := "loop.example/g01193/laws.FnExactJoinShapes", spec := "fnExactJoinShapes", inPlace := ["math.Float64bits", "math.Float64frombits"], unfollowed := true, recurses := true, named := ["loop.example/g01193/impl.rules"], apart := false, laid := [("loop.example/g01193/impl.rules", laid_loop_example_g01193_impl_rules)] }
def FnExactJoinShapesSaid : Prop := fnExactJoinShapesRow.holds Tryd.pinned (OpenSpec.ofChange fnExactJoinShapesSpec)

/-- ITS FALSE NEIGHBOUR: 'it returns false'. Refute it at one input. -/
def fnExactJoinShapesWrong : ChangeSpec := { name := "fnExactJoinShapes", vars := ["loop.example/g01193/impl.rules"], fn := fun _ => fun
  | [d1, d2, d3, d4, g1] => { results := [.lit (.bool false)], args := [d1, d2, d3, d4], vars := [g1] }
  | _ => none }
def FnExactJoinShapesWrongFalsely : Prop := fnExactJoinShapesRow.holds Tryd.pinned (OpenSpec.ofChange fnExactJoinShapesWrong)

/-- 'laws.FnExactWrapShape': WHATEVER THE INPUT: true; the input reads as it did. -/
def fnExactWrapShapeSpec : ChangeSpec := { name := "fnExactWrapShape", vars := ["loop.example/g01193/impl.rules"], fn := fun _ => fun
  | [d1, d2, d3, d4, g1] => { results := [.lit (.bool true)], args := [d1, d2, d3, d4], vars := [g1] }
  | _ => none }
def fnExactWrapShapeRow : OpenClaim := { program := "ytojdncdbagbloaadoor", sum := "5d1c62aa419916d68eba1000f0dddb75145feab5b900877eabe8d2f12dbf2ffd", func := "loop.example/g01193/laws.FnExactWrapShape", spec := "fnExactWrapShape", inPlace := ["math.Float64bits", "math.Float64frombits"], unfollowed := true, recurses := true, named := ["loop.example/g01193/impl.rules"], apart := false, laid := [("loop.example/g01193/impl.rules", laid_loop_example_g01193_impl_rules)] }
def FnExactWrapShapeSaid : Prop := fnExactWrapShapeRow.holds Tryd.pinned (OpenSpec.ofChange fnExactWrapShapeSpec)

/-- ITS FALSE NEIGHBOUR: 'it returns false'. Refute it at one input. -/
def fnExactWrapShapeWrong : ChangeSpec := { name := "fnExactWrapShape", vars := ["loop.example/g01193/impl.rules"], fn := fun _ => fun
  | [d1, d2, d3, d4, g1] => { results := [.lit (.bool false)], args := [d1, d2, d3, d4], vars := [g1] }
  | _ => none }
def FnExactWrapShapeWrongFalsely : Prop := fnExactWrapShapeRow.holds Tryd.pinned (OpenSpec.ofChange fnExactWrapShapeWrong)

/-- 'laws.FnExactUnionOf': WHATEVER THE INPUT: true; the input reads as it did. -/
def fnExactUnionOfSpec : ChangeSpec := { name := "fnExactUnionOf", vars := ["loop.example/g01193/impl.rules"], fn := fun _ => fun
  | [d, g1] => { results := [.lit (.bool true)], args := [d], vars := [g1] }
  | _ => none }
def fnExactUnionOfRow : OpenClaim := { program := "ytojdncdbagbloaadoor", sum := "5d1c62aa419916d68eba1000f0dddb75145feab5b900877eabe8d2f12dbf2ffd", func := "loop.example/g01193/laws.FnExactUnionOf", spec := "fnExactUnionOf", inPlace := ["math.Float64bits", "math.Float64frombits"], unfollowed := true, recurses := true, named := ["loop.example/g01193/impl.rules"], apart := false, laid := [("loop.example/g01193/impl.rules", laid_loop_example_g01193_impl_rules)] }
def FnExactUnionOfSaid : Prop := fnExactUnionOfRow.holds Tryd.pinned (OpenSpec.ofChange fnExactUnionOfSpec)

/-- ITS FALSE NEIGHBOUR: 'it returns false'. Refute it at one input. -/
def fnExactUnionOfWrong : ChangeSpec := { name := "fnExactUnionOf", vars := ["loop.example/g01193/impl.rules"], fn := fun _ => fun
  | [d, g1] => { results := [.lit (.bool false)], args := [d], vars := [g1] }
  | _ => none }
def FnExactUnionOfWrongFalsely : Prop := fnExactUnionOfRow.holds Tryd.pinned (OpenSpec.ofChange fnExactUnionOfWrong)

/-- 'laws.FnExactPartOf': WHATEVER THE INPUT: true; the input reads as it did. -/
def fnExactPartOfSpec : ChangeSpec := { name := "fnExactPartOf", vars := ["loop.example/g01193/impl.rules"], fn := fun _ => fun
  | [d1, d2, g1] => { results := [.lit (.bool true)], args := [d1, d2], vars := [g1] }
  | _ => none }
def fnExactPartOfRow : OpenClaim := { program := "ytojdncdbagbloaadoor", sum := "5d1c62aa419916d68eba1000f0dddb75145feab5b900877eabe8d2f12dbf2ffd", func := "loop.example/g01193/laws.FnExactPartOf", spec := "fnExactPartOf", inPlace := ["math.Float64bits", "math.Float64frombits"], unfollowed := true, recurses := true, named := ["loop.example/g01193/impl.rules"], apart := false, laid := [("loop.example/g01193/impl.rules", laid_loop_example_g01193_impl_rules)] }
def FnExactPartOfSaid : Prop := fnExactPartOfRow.holds Tryd.pinned (OpenSpec.ofChange fnExactPartOfSpec)

/-- ITS FALSE NEIGHBOUR: 'it returns false'. Refute it at one input. -/
def fnExactPartOfWrong : ChangeSpec := { name := "fnExactPartOf", vars := ["loop.example/g01193/impl.rules"], fn := fun _ => fun
  | [d1, d2, g1] => { results := [.lit (.bool false)], args := [d1, d2], vars := [g1] }
  | _ => none }
def FnExactPartOfWrongFalsely : Prop := fnExactPartOfRow.holds Tryd.pinned (OpenSpec.ofChange fnExactPartOfWrong)

/-- 'laws.FnExactFactorOf': WHATEVER THE INPUT: true; the input reads as it did. -/
def fnExactFactorOfSpec : ChangeSpec := { name := "fnExactFactorOf", vars := ["loop.example/g01193/impl.rules"], fn := fun _ => fun
  | [d, g1] => { results := [.lit (.bool true)], args := [d], vars := [g1] }
  | _ => none }
def fnExactFactorOfRow : OpenClaim := { program := "ytojdncdbagbloaadoor", sum := "5d1c62aa419916d68eba1000f0dddb75145feab5b900877eabe8d2f12dbf2ffd", func := "loop.example/g01193/laws.FnExactFactorOf", spec := "fnExactFactorOf", inPlace := ["math.sqrt", "math.Float64bits", "math.Float64frombits", "math.Float32bits", "math.Float32frombits"], unfollowed := true, recurses := true, named := ["loop.example/g01193/impl.rules"], apart := false, laid := [("loop.example/g01193/impl.rules", laid_loop_example_g01193_impl_rules)] }
def FnExactFactorOfSaid : Prop := fnExactFactorOfRow.holds Tryd.pinned (OpenSpec.ofChange fnExactFactorOfSpec)

/-- ITS FALSE NEIGHBOUR: 'it returns false'. Refute it at one input. -/
def fnExactFactorOfWrong : ChangeSpec := { name := "fnExactFactorOf", vars := ["loop.example/g01193/impl.rules"], fn := fun _ => fun
  | [d, g1] => { results := [.lit (.bool false)], args := [d], vars := [g1] }
  | _ => none }
def FnExactFactorOfWrongFalsely : Prop := fnExactFactorOfRow.holds Tryd.pinned (OpenSpec.ofChange fnExactFactorOfWrong)

/- THE SECOND FORM. 'bulk': how many values and letters a reading holds, each counted each time it is reached (what is shared counts as often as it is met; a slice's spare places count too). A statement '..UptoSaid' is the law's where the arguments, and the package variables that the reading takes, are together of bulk at most 1048576: NARROWER than '..Said'. Prove '..Said' where nothing that the law and all that it calls make is longer than what came in: it says more and counts as full. Else prove '..UptoSaid'. A law counts once. -/
mutual
def uptoBulk {H : Type} : DataW H → Nat
  | .lit (.string bytes) => bytes.length + 1
  | .lit _ => 1
  | .nil => 1
  | .ptr d => uptoBulk d + 1
  | .slice elems spare => uptoBulkAll elems + uptoBulkAll spare + 1
  | .agg parts => uptoBulkAll parts + 1
  | .iface _ d => uptoBulk d + 1
  | .map entries => uptoBulkEntries entries + 1
  | .held _ => 1
def uptoBulkAll {H : Type} : List (DataW H) → Nat
  | [] => 0
  | d :: r => uptoBulk d + uptoBulkAll r
def uptoBulkEntries {H : Type} : List (Lit × DataW H) → Nat
  | [] => 0
  | x :: r => uptoBulkEntry x + uptoBulkEntries r
def uptoBulkEntry {H : Type} : Lit × DataW H → Nat
  | (.string bytes, d) => bytes.length + uptoBulk d + 1
  | (_, d) => uptoBulk d + 1
 end
def uptoSmall : (H : Type) → List (DataW H) → Bool := fun _ ds => decide (uptoBulkAll ds ≤ 1048576)
def OpenSpec.upto (s : _root_.Go.ChangeSpec) : _root_.Go.OpenSpec := { _root_.Go.OpenSpec.ofChange s with cond := some uptoSmall }

/-- 'laws.FnSigns', WHERE WHAT IT READS IS OF BULK AT MOST 1048576: true; the input reads as it did. -/
def fnSignsUptoRow : OpenClaim := { program := "ytojdncdbagbloaadoor", sum := "5d1c62aa419916d68eba1000f0dddb75145feab5b900877eabe8d2f12dbf2ffd", func := "loop.example/g01193/laws.FnSigns", spec := "fnSigns", inPlace := ["math.Float64bits", "math.Float64frombits", "math.Float32bits", "math.Float32frombits"], unfollowed := true, recurses := true, named := ["loop.example/g01193/impl.rules"], apart := false, laid := [("loop.example/g01193/impl.rules", laid_loop_example_g01193_impl_rules)], narrowed := true }
def FnSignsUptoSaid : Prop := fnSignsUptoRow.holds Tryd.pinned (OpenSpec.upto fnSignsSpec)

/-- 'laws.FnLeaves', WHERE WHAT IT READS IS OF BULK AT MOST 1048576: true; the input reads as it did. -/
def fnLeavesUptoRow : OpenClaim := { program := "ytojdncdbagbloaadoor", sum := "5d1c62aa419916d68eba1000f0dddb75145feab5b900877eabe8d2f12dbf2ffd", func := "loop.example/g01193/laws.FnLeaves", spec := "fnLeaves", inPlace := ["math.Float64bits", "math.Float64frombits", "math.Float32bits", "math.Float32frombits"], unfollowed := true, recurses := true, named := ["loop.example/g01193/impl.rules"], apart := false, laid := [("loop.example/g01193/impl.rules", laid_loop_example_g01193_impl_rules)], narrowed := true }
def FnLeavesUptoSaid : Prop := fnLeavesUptoRow.holds Tryd.pinned (OpenSpec.upto fnLeavesSpec)

/-- 'laws.FnExactVectorText', WHERE WHAT IT READS IS OF BULK AT MOST 1048576: true; the input reads as it did. -/
def fnExactVectorTextUptoRow : OpenClaim := { program := "ytojdncdbagbloaadoor", sum := "5d1c62aa419916d68eba1000f0dddb75145feab5b900877eabe8d2f12dbf2ffd", func := "loop.example/g01193/laws.FnExactVectorText", spec := "fnExactVectorText", inPlace := ["math.Float32bits", "internal/abi.NoEscape", "internal/bytealg.MakeNoZero"], named := ["internal/strconv.uint64pow10", "math/bits.deBruijn32tab", "math/bits.deBruijn64tab"], apart := false, laid := [("math/bits.deBruijn32tab", laid_math_bits_deBruijn32tab), ("math/bits.deBruijn64tab", laid_math_bits_deBruijn64tab), ("internal/strconv.uint64pow10", laid_internal_strconv_uint64pow10)], narrowed := true }
def FnExactVectorTextUptoSaid : Prop := fnExactVectorTextUptoRow.holds Tryd.pinned (OpenSpec.upto fnExactVectorTextSpec)

/-- 'laws.FnExactReadVector', WHERE WHAT IT READS IS OF BULK AT MOST 1048576: true; the input reads as it did. -/
def fnExactReadVectorUptoRow : OpenClaim := { program := "ytojdncdbagbloaadoor", sum := "5d1c62aa419916d68eba1000f0dddb75145feab5b900877eabe8d2f12dbf2ffd", func := "loop.example/g01193/laws.FnExactReadVector", spec := "fnExactReadVector", inPlace := ["math.Float32frombits", "math.Float32bits", "internal/bytealg.CountString", "internal/bytealg.IndexByteString", "internal/bytealg.IndexString", "internal/abi.NoEscape", "internal/bytealg.MakeNoZero"], named := ["unicode/utf8.first", "unicode/utf8.acceptRanges", "internal/bytealg.MaxLen", "strconv.ErrSyntax", "strconv.ErrRange", "internal/strconv.uint64pow10", "math/bits.deBruijn32tab", "math/bits.deBruijn64tab"], apart := false, laid := [("math/bits.deBruijn32tab", laid_math_bits_deBruijn32tab), ("math/bits.deBruijn64tab", laid_math_bits_deBruijn64tab), ("internal/strconv.uint64pow10", laid_internal_strconv_uint64pow10), ("unicode/utf8.acceptRanges", laid_unicode_utf8_acceptRanges), ("strconv.ErrRange", laid_strconv_ErrRange), ("strconv.ErrSyntax", laid_strconv_ErrSyntax), ("unicode/utf8.first", laid_unicode_utf8_first)], narrowed := true }
def FnExactReadVectorUptoSaid : Prop := fnExactReadVectorUptoRow.holds Tryd.pinned (OpenSpec.upto fnExactReadVectorSpec)

/-- 'laws.FnExactNumbersText', WHERE WHAT IT READS IS OF BULK AT MOST 1048576: true; the input reads as it did. -/
def fnExactNumbersTextUptoRow : OpenClaim := { program := "ytojdncdbagbloaadoor", sum := "5d1c62aa419916d68eba1000f0dddb75145feab5b900877eabe8d2f12dbf2ffd", func := "loop.example/g01193/laws.FnExactNumbersText", spec := "fnExactNumbersText", inPlace := ["math.Float32bits", "internal/abi.NoEscape", "internal/bytealg.MakeNoZero"], named := ["internal/strconv.uint64pow10", "math/bits.deBruijn32tab", "math/bits.deBruijn64tab"], apart := false, laid := [("math/bits.deBruijn32tab", laid_math_bits_deBruijn32tab), ("math/bits.deBruijn64tab", laid_math_bits_deBruijn64tab), ("internal/strconv.uint64pow10", laid_internal_strconv_uint64pow10)], narrowed := true }
def FnExactNumbersTextUptoSaid : Prop := fnExactNumbersTextUptoRow.holds Tryd.pinned (OpenSpec.upto fnExactNumbersTextSpec)

/-- 'laws.FnExactReadNumbers', WHERE WHAT IT READS IS OF BULK AT MOST 1048576: true; the input reads as it did. -/
def fnExactReadNumbersUptoRow : OpenClaim := { program := "ytojdncdbagbloaadoor", sum := "5d1c62aa419916d68eba1000f0dddb75145feab5b900877eabe8d2f12dbf2ffd", func := "loop.example/g01193/laws.FnExactReadNumbers", spec := "fnExactReadNumbers", inPlace := ["math.Float32frombits", "math.Float32bits", "internal/bytealg.CountString", "internal/bytealg.IndexByteString", "internal/bytealg.IndexString", "internal/abi.NoEscape", "internal/bytealg.MakeNoZero"], named := ["unicode/utf8.first", "unicode/utf8.acceptRanges", "internal/bytealg.MaxLen", "strconv.ErrSyntax", "strconv.ErrRange", "internal/strconv.uint64pow10", "math/bits.deBruijn32tab", "math/bits.deBruijn64tab"], apart := false, laid := [("math/bits.deBruijn32tab", laid_math_bits_deBruijn32tab), ("math/bits.deBruijn64tab", laid_math_bits_deBruijn64tab), ("internal/strconv.uint64pow10", laid_internal_strconv_uint64pow10), ("unicode/utf8.acceptRanges", laid_unicode_utf8_acceptRanges), ("strconv.ErrRange", laid_strconv_ErrRange), ("strconv.ErrSyntax", laid_strconv_ErrSyntax), ("unicode/utf8.first", laid_unicode_utf8_first)], narrowed := true }
def FnExactReadNumbersUptoSaid : Prop := fnExactReadNumbersUptoRow.holds Tryd.pinned (OpenSpec.upto fnExactReadNumbersSpec)

/-- 'laws.FnExactListText', WHERE WHAT IT READS IS OF BULK AT MOST 1048576: true; the input reads as it did. -/
def fnExactListTextUptoRow : OpenClaim := { program := "ytojdncdbagbloaadoor", sum := "5d1c62aa419916d68eba1000f0dddb75145feab5b900877eabe8d2f12dbf2ffd", func := "loop.example/g01193/laws.FnExactListText", spec := "fnExactListText", inPlace := ["internal/abi.NoEscape", "internal/bytealg.MakeNoZero"], named := ["internal/strconv.uint64pow10", "math/bits.deBruijn32tab", "math/bits.deBruijn64tab"], apart := false, laid := [("math/bits.deBruijn32tab", laid_math_bits_deBruijn32tab), ("math/bits.deBruijn64tab", laid_math_bits_deBruijn64tab), ("internal/strconv.uint64pow10", laid_internal_strconv_uint64pow10)], narrowed := true }
def FnExactListTextUptoSaid : Prop := fnExactListTextUptoRow.holds Tryd.pinned (OpenSpec.upto fnExactListTextSpec)

/-- 'laws.FnExactReadList', WHERE WHAT IT READS IS OF BULK AT MOST 1048576: true; the input reads as it did. -/
def fnExactReadListUptoRow : OpenClaim := { program := "ytojdncdbagbloaadoor", sum := "5d1c62aa419916d68eba1000f0dddb75145feab5b900877eabe8d2f12dbf2ffd", func := "loop.example/g01193/laws.FnExactReadList", spec := "fnExactReadList", inPlace := ["internal/bytealg.CountString", "internal/bytealg.IndexByteString", "internal/bytealg.IndexString"], named := ["unicode/utf8.first", "unicode/utf8.acceptRanges", "internal/bytealg.MaxLen", "strconv.ErrSyntax", "strconv.ErrRange", "internal/strconv.uint64pow10", "math/bits.deBruijn32tab", "math/bits.deBruijn64tab"], apart := false, laid := [("math/bits.deBruijn32tab", laid_math_bits_deBruijn32tab), ("math/bits.deBruijn64tab", laid_math_bits_deBruijn64tab), ("internal/strconv.uint64pow10", laid_internal_strconv_uint64pow10), ("unicode/utf8.acceptRanges", laid_unicode_utf8_acceptRanges), ("strconv.ErrRange", laid_strconv_ErrRange), ("strconv.ErrSyntax", laid_strconv_ErrSyntax), ("unicode/utf8.first", laid_unicode_utf8_first)], narrowed := true }
def FnExactReadListUptoSaid : Prop := fnExactReadListUptoRow.holds Tryd.pinned (OpenSpec.upto fnExactReadListSpec)

/-- 'laws.FnExactOneNode', WHERE WHAT IT READS IS OF BULK AT MOST 1048576: true; the input reads as it did. -/
def fnExactOneNodeUptoRow : OpenClaim := { program := "ytojdncdbagbloaadoor", sum := "5d1c62aa419916d68eba1000f0dddb75145feab5b900877eabe8d2f12dbf2ffd", func := "loop.example/g01193/laws.FnExactOneNode", spec := "fnExactOneNode", inPlace := ["math.Float64bits", "math.Float64frombits"], named := ["loop.example/g01193/impl.rules"], apart := false, laid := [("loop.example/g01193/impl.rules", laid_loop_example_g01193_impl_rules)], narrowed := true }
def FnExactOneNodeUptoSaid : Prop := fnExactOneNodeUptoRow.holds Tryd.pinned (OpenSpec.upto fnExactOneNodeSpec)

/-- 'laws.FnExactJoinShapes', WHERE WHAT IT READS IS OF BULK AT MOST 1048576: true; the input reads as it did. -/
def fnExactJoinShapesUptoRow : OpenClaim := { program := "ytojdncdbagbloaadoor", sum := "5d1c62aa419916d68eba1000f0dddb75145feab5b900877eabe8d2f12dbf2ffd", func := "loop.example/g01193/laws.FnExactJoinShapes", spec := "fnExactJoinShapes", inPlace := ["math.Float64bits", "math.Float64frombits"], unfollowed := true, recurses := true, named := ["loop.example/g01193/impl.rules"], apart := false, laid := [("loop.example/g01193/impl.rules", laid_loop_example_g01193_impl_rules)], narrowed := true }
def FnExactJoinShapesUptoSaid : Prop := fnExactJoinShapesUptoRow.holds Tryd.pinned (OpenSpec.upto fnExactJoinShapesSpec)

/-- 'laws.FnExactWrapShape', WHERE WHAT IT READS IS OF BULK AT MOST 1048576: true; the input reads as it did. -/
def fnExactWrapShapeUptoRow : OpenClaim := { program := "ytojdncdbagbloaadoor", sum := "5d1c62aa419916d68eba1000f0dddb75145feab5b900877eabe8d2f12dbf2ffd", func := "loop.example/g01193/laws.FnExactWrapShape", spec := "fnExactWrapShape", inPlace := ["math.Float64bits", "math.Float64frombits"], unfollowed := true, recurses := true, named := ["loop.example/g01193/impl.rules"], apart := false, laid := [("loop.example/g01193/impl.rules", laid_loop_example_g01193_impl_rules)], narrowed := true }
def FnExactWrapShapeUptoSaid : Prop := fnExactWrapShapeUptoRow.holds Tryd.pinned (OpenSpec.upto fnExactWrapShapeSpec)

/-- 'laws.FnExactUnionOf', WHERE WHAT IT READS IS OF BULK AT MOST 1048576: true; the input reads as it did. -/
def fnExactUnionOfUptoRow : OpenClaim := { program := "ytojdncdbagbloaadoor", sum := "5d1c62aa419916d68eba1000f0dddb75145feab5b900877eabe8d2f12dbf2ffd", func := "loop.example/g01193/laws.FnExactUnionOf", spec := "fnExactUnionOf", inPlace := ["math.Float64bits", "math.Float64frombits"], unfollowed := true, recurses := true, named := ["loop.example/g01193/impl.rules"], apart := false, laid := [("loop.example/g01193/impl.rules", laid_loop_example_g01193_impl_rules)], narrowed := true }
def FnExactUnionOfUptoSaid : Prop := fnExactUnionOfUptoRow.holds Tryd.pinned (OpenSpec.upto fnExactUnionOfSpec)

/-- 'laws.FnExactPartOf', WHERE WHAT IT READS IS OF BULK AT MOST 1048576: true; the input reads as it did. -/
def fnExactPartOfUptoRow : OpenClaim := { program := "ytojdncdbagbloaadoor", sum := "5d1c62aa419916d68eba1000f0dddb75145feab5b900877eabe8d2f12dbf2ffd", func := "loop.example/g01193/laws.FnExactPartOf", spec := "fnExactPartOf", inPlace := ["math.Float64bits", "math.Float64frombits"], unfollowed := true, recurses := true, named := ["loop.example/g01193/impl.rules"], apart := false, laid := [("loop.example/g01193/impl.rules", laid_loop_example_g01193_impl_rules)], narrowed := true }
def FnExactPartOfUptoSaid : Prop := fnExactPartOfUptoRow.holds Tryd.pinned (OpenSpec.upto fnExactPartOfSpec)

/-- 'laws.FnExactFactorOf', WHERE WHAT IT READS IS OF BULK AT MOST 1048576: true; the input reads as it did. -/
def fnExactFactorOfUptoRow : OpenClaim := { program := "ytojdncdbagbloaadoor", sum := "5d1c62aa419916d68eba1000f0dddb75145feab5b900877eabe8d2f12dbf2ffd", func := "loop.example/g01193/laws.FnExactFactorOf", spec := "fnExactFactorOf", inPlace := ["math.sqrt", "math.Float64bits", "math.Float64frombits", "math.Float32bits", "math.Float32frombits"], unfollowed := true, recurses := true, named := ["loop.example/g01193/impl.rules"], apart := false, laid := [("loop.example/g01193/impl.rules", laid_loop_example_g01193_impl_rules)], narrowed := true }
def FnExactFactorOfUptoSaid : Prop := fnExactFactorOfUptoRow.holds Tryd.pinned (OpenSpec.upto fnExactFactorOfSpec)

end Rows
end Go.Proofs.YtojdncdbagbloaaDoor
