/-
  NARROWER THAN 'FOR EVERY INPUT', by the rows' own cells (each row's printed sentence says how): HeapActs: laid · HeapAlike: laid · HeapWeak: laid · HeapCounts: laid · HeapRings: laid · HeapTrees: laid.
  DERIVED. THE GIVEN ROWS OF THIS SEAT. 6 by the template 'for every input the law returns true; each argument reads behind the call as it read before'; 0 by the template 'total and deterministic' (their statements: YtlkcbdinlfeoiaaGreatDoorTotals.lean).
  GIVEN WITH THE SEED: the statements are not yours to turn. If you find one false, say at which input.
  Laid BY PROGRAM, IN A SANDBOX (cutbox-rows.mjs): the forced cells as the released guide's own fill.sh prints them over the translation 8e9b2b61ea2d039d… (all of the seat's roots in one cut). By AI agents, Wed Nov 11 2026. No macro, syntax, notation, axiom, sorry.
-/
import Derived.Test.YtlkcbdinlfeoiaaGreatDoorChecked
import GoSem.PinnedTables
import GoSem.Claim
import GoSem.ClaimJoined
import GoSem.ClaimMapViews
import Derived.JoinedTies
import Derived.KernelRfl
namespace Go.Proofs.YtlkcbdinlfeoiaaGreatDoor
/- THE CELL 'sum', in the pinned program and in every row, IS THE sha256 OF THE DUMP (.gsa) THAT YtlkcbdinlfeoiaaGreatDoorProg.lean LOADS. Nothing in Lean hashes anything: it is a label: what it is worth is what the hold of that sum in a sandbox is worth. -/
noncomputable def Tryz.pinned : Pinned := { name := "ytlkcbdinlfeoiaagreatdoor", sum := "8e9b2b61ea2d039d6f8b49055c84c1ce482aa4948bed72fb88303fe591b74180", checked := Tryz.checked }
namespace Rows
def none {H : Type} : Left H := { results := [], args := [] }

/- WHAT THE LISTED PACKAGE-LEVEL VARIABLES READ AS WHEN THE CALL BEGINS. Each datum BY PROGRAM (the guide's laid-datum.mjs) off the statement by which the dump's own 'gosem.cut.vars' lays the variable. In a bare row this is a premise. The card (YtlkcbdinlfeoiaaGreatDoorCards.lean) ties it to the program's text. -/
def laid_math_bits_deBruijn32tab {H : Type} : DataW H := .agg [.lit (.int .u8 0), .lit (.int .u8 1), .lit (.int .u8 28), .lit (.int .u8 2), .lit (.int .u8 29), .lit (.int .u8 14), .lit (.int .u8 24), .lit (.int .u8 3), .lit (.int .u8 30), .lit (.int .u8 22), .lit (.int .u8 20), .lit (.int .u8 15), .lit (.int .u8 25), .lit (.int .u8 17), .lit (.int .u8 4), .lit (.int .u8 8), .lit (.int .u8 31), .lit (.int .u8 27), .lit (.int .u8 13), .lit (.int .u8 23), .lit (.int .u8 21), .lit (.int .u8 19), .lit (.int .u8 16), .lit (.int .u8 7), .lit (.int .u8 26), .lit (.int .u8 12), .lit (.int .u8 18), .lit (.int .u8 6), .lit (.int .u8 11), .lit (.int .u8 5), .lit (.int .u8 10), .lit (.int .u8 9)]
def laid_math_bits_deBruijn64tab {H : Type} : DataW H := .agg [.lit (.int .u8 0), .lit (.int .u8 1), .lit (.int .u8 56), .lit (.int .u8 2), .lit (.int .u8 57), .lit (.int .u8 49), .lit (.int .u8 28), .lit (.int .u8 3), .lit (.int .u8 61), .lit (.int .u8 58), .lit (.int .u8 42), .lit (.int .u8 50), .lit (.int .u8 38), .lit (.int .u8 29), .lit (.int .u8 17), .lit (.int .u8 4), .lit (.int .u8 62), .lit (.int .u8 47), .lit (.int .u8 59), .lit (.int .u8 36), .lit (.int .u8 45), .lit (.int .u8 43), .lit (.int .u8 51), .lit (.int .u8 22), .lit (.int .u8 53), .lit (.int .u8 39), .lit (.int .u8 33), .lit (.int .u8 30), .lit (.int .u8 24), .lit (.int .u8 18), .lit (.int .u8 12), .lit (.int .u8 5), .lit (.int .u8 63), .lit (.int .u8 55), .lit (.int .u8 48), .lit (.int .u8 27), .lit (.int .u8 60), .lit (.int .u8 41), .lit (.int .u8 37), .lit (.int .u8 16), .lit (.int .u8 46), .lit (.int .u8 35), .lit (.int .u8 44), .lit (.int .u8 21), .lit (.int .u8 52), .lit (.int .u8 32), .lit (.int .u8 23), .lit (.int .u8 11), .lit (.int .u8 54), .lit (.int .u8 26), .lit (.int .u8 40), .lit (.int .u8 15), .lit (.int .u8 34), .lit (.int .u8 20), .lit (.int .u8 31), .lit (.int .u8 10), .lit (.int .u8 25), .lit (.int .u8 14), .lit (.int .u8 19), .lit (.int .u8 9), .lit (.int .u8 13), .lit (.int .u8 8), .lit (.int .u8 7), .lit (.int .u8 6)]
def laid_internal_strconv_uint64pow10 {H : Type} : DataW H := .agg [.lit (.int .u64 1), .lit (.int .u64 10), .lit (.int .u64 100), .lit (.int .u64 1000), .lit (.int .u64 10000), .lit (.int .u64 100000), .lit (.int .u64 1000000), .lit (.int .u64 10000000), .lit (.int .u64 100000000), .lit (.int .u64 1000000000), .lit (.int .u64 10000000000), .lit (.int .u64 100000000000), .lit (.int .u64 1000000000000), .lit (.int .u64 10000000000000), .lit (.int .u64 100000000000000), .lit (.int .u64 1000000000000000), .lit (.int .u64 10000000000000000), .lit (.int .u64 100000000000000000), .lit (.int .u64 1000000000000000000), .lit (.int .u64 10000000000000000000)]
def laid_unicode_utf8_acceptRanges {H : Type} : DataW H := .agg [.agg [.lit (.int .u8 128), .lit (.int .u8 191)], .agg [.lit (.int .u8 160), .lit (.int .u8 191)], .agg [.lit (.int .u8 128), .lit (.int .u8 159)], .agg [.lit (.int .u8 144), .lit (.int .u8 191)], .agg [.lit (.int .u8 128), .lit (.int .u8 143)], .agg [.lit (.int .u8 0), .lit (.int .u8 0)], .agg [.lit (.int .u8 0), .lit (.int .u8 0)], .agg [.lit (.int .u8 0), .lit (.int .u8 0)], .agg [.lit (.int .u8 0), .lit (.int .u8 0)], .agg [.lit (.int .u8 0), .lit (.int .u8 0)], .agg [.lit (.int .u8 0), .lit (.int .u8 0)], .agg [.lit (.int .u8 0), .lit (.int .u8 0)], .agg [.lit (.int .u8 0), .lit (.int .u8 0)], .agg [.lit (.int .u8 0), .lit (.int .u8 0)], .agg [.lit (.int .u8 0), .lit (.int .u8 0)], .agg [.lit (.int .u8 0), .lit (.int .u8 0)]]
def laid_errors_errorType {H : Type} : DataW H := .iface "internal/reflectlite.rtype" (.agg [.ptr (.lit (.string [101, 114, 114, 111, 114]))])
def laid_nurserypy_api_ErrText {H : Type} : DataW H := .iface "*errors.errorString" (.ptr (.agg [.lit (.string [110, 117, 114, 115, 101, 114, 121, 112, 121, 58, 32, 116, 101, 120, 116])]))
def laid_nurserypy_api_ErrBound {H : Type} : DataW H := .iface "*errors.errorString" (.ptr (.agg [.lit (.string [110, 117, 114, 115, 101, 114, 121, 112, 121, 58, 32, 98, 111, 117, 110, 100])]))
def laid_nurserypy_api_ErrShape {H : Type} : DataW H := .iface "*errors.errorString" (.ptr (.agg [.lit (.string [110, 117, 114, 115, 101, 114, 121, 112, 121, 58, 32, 115, 104, 97, 112, 101])]))
def laid_nurserypy_api_ErrName {H : Type} : DataW H := .iface "*errors.errorString" (.ptr (.agg [.lit (.string [110, 117, 114, 115, 101, 114, 121, 112, 121, 58, 32, 110, 97, 109, 101])]))
def laid_nurserypy_api_ErrPlace {H : Type} : DataW H := .iface "*errors.errorString" (.ptr (.agg [.lit (.string [110, 117, 114, 115, 101, 114, 121, 112, 121, 58, 32, 112, 108, 97, 99, 101])]))
def laid_nurserypy_api_ErrFull {H : Type} : DataW H := .iface "*errors.errorString" (.ptr (.agg [.lit (.string [110, 117, 114, 115, 101, 114, 121, 112, 121, 58, 32, 102, 117, 108, 108])]))
def laid_nurserypy_api_ErrNone {H : Type} : DataW H := .iface "*errors.errorString" (.ptr (.agg [.lit (.string [110, 117, 114, 115, 101, 114, 121, 112, 121, 58, 32, 110, 111, 110, 101])]))
/-- One of Go's own tables, pinned by name: the form's constant. -/
def laid_unicode_utf8_first : DataW Unit := Go.Pinned.utf8First

/-- 'nurserypylaw3.HeapActs': WHATEVER THE INPUT: true; the input reads as it did. -/
def heapActsSpec : ChangeSpec := { name := "heapActs", fn := fun _ => fun
  | [d1, d2, d3, d4, d5, d6] => { results := [.lit (.bool true)], args := [d1, d2, d3, d4, d5, d6] }
  | _ => none }
def heapActsRow : OpenClaim := { program := "ytlkcbdinlfeoiaagreatdoor", sum := "8e9b2b61ea2d039d6f8b49055c84c1ce482aa4948bed72fb88303fe591b74180", func := "nurserypy/nurserypylaw3.HeapActs", spec := "heapActs", inPlace := ["internal/abi.NoEscape", "internal/bytealg.MakeNoZero", "internal/bytealg.CountString", "internal/bytealg.IndexByteString", "internal/bytealg.IndexString", "internal/reflectlite.ValueOf", "(internal/reflectlite.Value).Type", "(internal/reflectlite.Value).IsNil", "internal/reflectlite.TypeOf", "(internal/reflectlite.Value).Elem", "(internal/reflectlite.Value).Set"], unfollowed := true, recurses := true, named := ["nurserypy/api.ErrBound", "nurserypy/api.ErrFull", "nurserypy/api.ErrShape", "nurserypy/api.ErrPlace", "internal/strconv.uint64pow10", "math/bits.deBruijn32tab", "math/bits.deBruijn64tab", "unicode/utf8.first", "unicode/utf8.acceptRanges", "internal/bytealg.MaxLen", "nurserypy/api.ErrText", "nurserypy/api.ErrName", "nurserypy/api.ErrNone", "errors.errorType"], apart := false, laid := [("math/bits.deBruijn32tab", laid_math_bits_deBruijn32tab), ("math/bits.deBruijn64tab", laid_math_bits_deBruijn64tab), ("internal/strconv.uint64pow10", laid_internal_strconv_uint64pow10), ("unicode/utf8.acceptRanges", laid_unicode_utf8_acceptRanges), ("errors.errorType", laid_errors_errorType), ("nurserypy/api.ErrText", laid_nurserypy_api_ErrText), ("nurserypy/api.ErrBound", laid_nurserypy_api_ErrBound), ("nurserypy/api.ErrShape", laid_nurserypy_api_ErrShape), ("nurserypy/api.ErrName", laid_nurserypy_api_ErrName), ("nurserypy/api.ErrPlace", laid_nurserypy_api_ErrPlace), ("nurserypy/api.ErrFull", laid_nurserypy_api_ErrFull), ("nurserypy/api.ErrNone", laid_nurserypy_api_ErrNone), ("unicode/utf8.first", laid_unicode_utf8_first)] }
def HeapActsSaid : Prop := heapActsRow.holds Tryz.pinned (OpenSpec.ofChange heapActsSpec)

/-- ITS FALSE NEIGHBOUR: 'it returns false'. Refute it at one input. -/
def heapActsWrong : ChangeSpec := { name := "heapActs", fn := fun _ => fun
  | [d1, d2, d3, d4, d5, d6] => { results := [.lit (.bool false)], args := [d1, d2, d3, d4, d5, d6] }
  | _ => none }
def HeapActsWrongFalsely : Prop := heapActsRow.holds Tryz.pinned (OpenSpec.ofChange heapActsWrong)

/-- 'nurserypylaw3.HeapAlike': WHATEVER THE INPUT: true; the input reads as it did. -/
def heapAlikeSpec : ChangeSpec := { name := "heapAlike", fn := fun _ => fun
  | [d1, d2, d3, d4, d5, d6] => { results := [.lit (.bool true)], args := [d1, d2, d3, d4, d5, d6] }
  | _ => none }
def heapAlikeRow : OpenClaim := { program := "ytlkcbdinlfeoiaagreatdoor", sum := "8e9b2b61ea2d039d6f8b49055c84c1ce482aa4948bed72fb88303fe591b74180", func := "nurserypy/nurserypylaw3.HeapAlike", spec := "heapAlike", inPlace := ["internal/abi.NoEscape", "internal/bytealg.MakeNoZero", "internal/bytealg.CountString", "internal/bytealg.IndexByteString", "internal/bytealg.IndexString", "internal/reflectlite.ValueOf", "(internal/reflectlite.Value).Type", "(internal/reflectlite.Value).IsNil", "internal/reflectlite.TypeOf", "(internal/reflectlite.Value).Elem", "(internal/reflectlite.Value).Set"], unfollowed := true, recurses := true, named := ["nurserypy/api.ErrBound", "nurserypy/api.ErrFull", "nurserypy/api.ErrShape", "nurserypy/api.ErrPlace", "internal/strconv.uint64pow10", "math/bits.deBruijn32tab", "math/bits.deBruijn64tab", "unicode/utf8.first", "unicode/utf8.acceptRanges", "internal/bytealg.MaxLen", "nurserypy/api.ErrText", "nurserypy/api.ErrName", "nurserypy/api.ErrNone", "errors.errorType"], apart := false, laid := [("math/bits.deBruijn32tab", laid_math_bits_deBruijn32tab), ("math/bits.deBruijn64tab", laid_math_bits_deBruijn64tab), ("internal/strconv.uint64pow10", laid_internal_strconv_uint64pow10), ("unicode/utf8.acceptRanges", laid_unicode_utf8_acceptRanges), ("errors.errorType", laid_errors_errorType), ("nurserypy/api.ErrText", laid_nurserypy_api_ErrText), ("nurserypy/api.ErrBound", laid_nurserypy_api_ErrBound), ("nurserypy/api.ErrShape", laid_nurserypy_api_ErrShape), ("nurserypy/api.ErrName", laid_nurserypy_api_ErrName), ("nurserypy/api.ErrPlace", laid_nurserypy_api_ErrPlace), ("nurserypy/api.ErrFull", laid_nurserypy_api_ErrFull), ("nurserypy/api.ErrNone", laid_nurserypy_api_ErrNone), ("unicode/utf8.first", laid_unicode_utf8_first)] }
def HeapAlikeSaid : Prop := heapAlikeRow.holds Tryz.pinned (OpenSpec.ofChange heapAlikeSpec)

/-- ITS FALSE NEIGHBOUR: 'it returns false'. Refute it at one input. -/
def heapAlikeWrong : ChangeSpec := { name := "heapAlike", fn := fun _ => fun
  | [d1, d2, d3, d4, d5, d6] => { results := [.lit (.bool false)], args := [d1, d2, d3, d4, d5, d6] }
  | _ => none }
def HeapAlikeWrongFalsely : Prop := heapAlikeRow.holds Tryz.pinned (OpenSpec.ofChange heapAlikeWrong)

/-- 'nurserypylaw3.HeapWeak': WHATEVER THE INPUT: true; the input reads as it did. -/
def heapWeakSpec : ChangeSpec := { name := "heapWeak", fn := fun _ => fun
  | [d1, d2, d3] => { results := [.lit (.bool true)], args := [d1, d2, d3] }
  | _ => none }
def heapWeakRow : OpenClaim := { program := "ytlkcbdinlfeoiaagreatdoor", sum := "8e9b2b61ea2d039d6f8b49055c84c1ce482aa4948bed72fb88303fe591b74180", func := "nurserypy/nurserypylaw3.HeapWeak", spec := "heapWeak", inPlace := ["internal/abi.NoEscape", "internal/bytealg.MakeNoZero", "internal/bytealg.CountString", "internal/bytealg.IndexByteString", "internal/bytealg.IndexString"], unfollowed := true, recurses := true, named := ["nurserypy/api.ErrBound", "nurserypy/api.ErrFull", "nurserypy/api.ErrShape", "nurserypy/api.ErrPlace", "internal/strconv.uint64pow10", "math/bits.deBruijn32tab", "math/bits.deBruijn64tab", "unicode/utf8.first", "unicode/utf8.acceptRanges", "internal/bytealg.MaxLen"], apart := false, laid := [("math/bits.deBruijn32tab", laid_math_bits_deBruijn32tab), ("math/bits.deBruijn64tab", laid_math_bits_deBruijn64tab), ("internal/strconv.uint64pow10", laid_internal_strconv_uint64pow10), ("unicode/utf8.acceptRanges", laid_unicode_utf8_acceptRanges), ("nurserypy/api.ErrBound", laid_nurserypy_api_ErrBound), ("nurserypy/api.ErrShape", laid_nurserypy_api_ErrShape), ("nurserypy/api.ErrPlace", laid_nurserypy_api_ErrPlace), ("nurserypy/api.ErrFull", laid_nurserypy_api_ErrFull), ("unicode/utf8.first", laid_unicode_utf8_first)] }
def HeapWeakSaid : Prop := heapWeakRow.holds Tryz.pinned (OpenSpec.ofChange heapWeakSpec)

/-- ITS FALSE NEIGHBOUR: 'it returns false'. Refute it at one input. -/
def heapWeakWrong : ChangeSpec := { name := "heapWeak", fn := fun _ => fun
  | [d1, d2, d3] => { results := [.lit (.bool false)], args := [d1, d2, d3] }
  | _ => none }
def HeapWeakWrongFalsely : Prop := heapWeakRow.holds Tryz.pinned (OpenSpec.ofChange heapWeakWrong)

/-- 'nurserypylaw3.HeapCounts': WHATEVER THE INPUT: true; the input reads as it did. -/
def heapCountsSpec : ChangeSpec := { name := "heapCounts", fn := fun _ => fun
  | [d1, d2, d3, d4, d5] => { results := [.lit (.bool true)], args := [d1, d2, d3, d4, d5] }
  | _ => none }
def heapCountsRow : OpenClaim := { program := "ytlkcbdinlfeoiaagreatdoor", sum := "8e9b2b61ea2d039d6f8b49055c84c1ce482aa4948bed72fb88303fe591b74180", func := "nurserypy/nurserypylaw3.HeapCounts", spec := "heapCounts", inPlace := ["internal/abi.NoEscape", "internal/bytealg.MakeNoZero", "internal/bytealg.CountString", "internal/bytealg.IndexByteString", "internal/bytealg.IndexString"], unfollowed := true, recurses := true, named := ["nurserypy/api.ErrBound", "nurserypy/api.ErrFull", "nurserypy/api.ErrShape", "nurserypy/api.ErrPlace", "internal/strconv.uint64pow10", "math/bits.deBruijn32tab", "math/bits.deBruijn64tab", "unicode/utf8.first", "unicode/utf8.acceptRanges", "internal/bytealg.MaxLen"], apart := false, laid := [("math/bits.deBruijn32tab", laid_math_bits_deBruijn32tab), ("math/bits.deBruijn64tab", laid_math_bits_deBruijn64tab), ("internal/strconv.uint64pow10", laid_internal_strconv_uint64pow10), ("unicode/utf8.acceptRanges", laid_unicode_utf8_acceptRanges), ("nurserypy/api.ErrBound", laid_nurserypy_api_ErrBound), ("nurserypy/api.ErrShape", laid_nurserypy_api_ErrShape), ("nurserypy/api.ErrPlace", laid_nurserypy_api_ErrPlace), ("nurserypy/api.ErrFull", laid_nurserypy_api_ErrFull), ("unicode/utf8.first", laid_unicode_utf8_first)] }
def HeapCountsSaid : Prop := heapCountsRow.holds Tryz.pinned (OpenSpec.ofChange heapCountsSpec)

/-- ITS FALSE NEIGHBOUR: 'it returns false'. Refute it at one input. -/
def heapCountsWrong : ChangeSpec := { name := "heapCounts", fn := fun _ => fun
  | [d1, d2, d3, d4, d5] => { results := [.lit (.bool false)], args := [d1, d2, d3, d4, d5] }
  | _ => none }
def HeapCountsWrongFalsely : Prop := heapCountsRow.holds Tryz.pinned (OpenSpec.ofChange heapCountsWrong)

/-- 'nurserypylaw3.HeapRings': WHATEVER THE INPUT: true; the input reads as it did. -/
def heapRingsSpec : ChangeSpec := { name := "heapRings", fn := fun _ => fun
  | [d1, d2, d3, d4] => { results := [.lit (.bool true)], args := [d1, d2, d3, d4] }
  | _ => none }
def heapRingsRow : OpenClaim := { program := "ytlkcbdinlfeoiaagreatdoor", sum := "8e9b2b61ea2d039d6f8b49055c84c1ce482aa4948bed72fb88303fe591b74180", func := "nurserypy/nurserypylaw3.HeapRings", spec := "heapRings", inPlace := ["internal/abi.NoEscape", "internal/bytealg.MakeNoZero", "internal/bytealg.CountString", "internal/bytealg.IndexByteString", "internal/bytealg.IndexString"], unfollowed := true, recurses := true, named := ["nurserypy/api.ErrBound", "nurserypy/api.ErrFull", "nurserypy/api.ErrShape", "nurserypy/api.ErrPlace", "internal/strconv.uint64pow10", "math/bits.deBruijn32tab", "math/bits.deBruijn64tab", "unicode/utf8.first", "unicode/utf8.acceptRanges", "internal/bytealg.MaxLen"], apart := false, laid := [("math/bits.deBruijn32tab", laid_math_bits_deBruijn32tab), ("math/bits.deBruijn64tab", laid_math_bits_deBruijn64tab), ("internal/strconv.uint64pow10", laid_internal_strconv_uint64pow10), ("unicode/utf8.acceptRanges", laid_unicode_utf8_acceptRanges), ("nurserypy/api.ErrBound", laid_nurserypy_api_ErrBound), ("nurserypy/api.ErrShape", laid_nurserypy_api_ErrShape), ("nurserypy/api.ErrPlace", laid_nurserypy_api_ErrPlace), ("nurserypy/api.ErrFull", laid_nurserypy_api_ErrFull), ("unicode/utf8.first", laid_unicode_utf8_first)] }
def HeapRingsSaid : Prop := heapRingsRow.holds Tryz.pinned (OpenSpec.ofChange heapRingsSpec)

/-- ITS FALSE NEIGHBOUR: 'it returns false'. Refute it at one input. -/
def heapRingsWrong : ChangeSpec := { name := "heapRings", fn := fun _ => fun
  | [d1, d2, d3, d4] => { results := [.lit (.bool false)], args := [d1, d2, d3, d4] }
  | _ => none }
def HeapRingsWrongFalsely : Prop := heapRingsRow.holds Tryz.pinned (OpenSpec.ofChange heapRingsWrong)

/-- 'nurserypylaw3.HeapTrees': WHATEVER THE INPUT: true; the input reads as it did. -/
def heapTreesSpec : ChangeSpec := { name := "heapTrees", fn := fun _ => fun
  | [d1, d2, d3, d4] => { results := [.lit (.bool true)], args := [d1, d2, d3, d4] }
  | _ => none }
def heapTreesRow : OpenClaim := { program := "ytlkcbdinlfeoiaagreatdoor", sum := "8e9b2b61ea2d039d6f8b49055c84c1ce482aa4948bed72fb88303fe591b74180", func := "nurserypy/nurserypylaw3.HeapTrees", spec := "heapTrees", inPlace := ["internal/abi.NoEscape", "internal/bytealg.MakeNoZero", "internal/bytealg.CountString", "internal/bytealg.IndexByteString", "internal/bytealg.IndexString"], unfollowed := true, recurses := true, named := ["nurserypy/api.ErrBound", "nurserypy/api.ErrFull", "nurserypy/api.ErrShape", "nurserypy/api.ErrPlace", "internal/strconv.uint64pow10", "math/bits.deBruijn32tab", "math/bits.deBruijn64tab", "unicode/utf8.first", "unicode/utf8.acceptRanges", "internal/bytealg.MaxLen"], apart := false, laid := [("math/bits.deBruijn32tab", laid_math_bits_deBruijn32tab), ("math/bits.deBruijn64tab", laid_math_bits_deBruijn64tab), ("internal/strconv.uint64pow10", laid_internal_strconv_uint64pow10), ("unicode/utf8.acceptRanges", laid_unicode_utf8_acceptRanges), ("nurserypy/api.ErrBound", laid_nurserypy_api_ErrBound), ("nurserypy/api.ErrShape", laid_nurserypy_api_ErrShape), ("nurserypy/api.ErrPlace", laid_nurserypy_api_ErrPlace), ("nurserypy/api.ErrFull", laid_nurserypy_api_ErrFull), ("unicode/utf8.first", laid_unicode_utf8_first)] }
def HeapTreesSaid : Prop := heapTreesRow.holds Tryz.pinned (OpenSpec.ofChange heapTreesSpec)

/-- ITS FALSE NEIGHBOUR: 'it returns false'. Refute it at one input. -/
def heapTreesWrong : ChangeSpec := { name := "heapTrees", fn := fun _ => fun
  | [d1, d2, d3, d4] => { results := [.lit (.bool false)], args := [d1, d2, d3, d4] }
  | _ => none }
def HeapTreesWrongFalsely : Prop := heapTreesRow.holds Tryz.pinned (OpenSpec.ofChange heapTreesWrong)

/- THE SECOND FORM. 'bulk': how many values and letters a reading holds, each counted each time it is reached (what is shared counts as often as it is met; a slice's spare places count too). A statement '..UptoSaid' is the law's where the arguments, and the package variables that the reading takes, are together of bulk at most 1048576: NARROWER than '..Said'. Prove '..Said' where nothing that the law and all that it calls make is longer than what came in: it says more and counts as full. Else prove '..UptoSaid'. A law counts once. -/
mutual
def uptoBulk {H : Type} : DataW H → Nat
  | .lit (.string bytes) => bytes.length + 1
  | .lit _ => 1
  | .nil => 1
  | .ptr d => uptoBulk d + 1
  | .slice elems spare => uptoBulkAll elems + uptoBulkAll spare + 1
  | .agg parts => uptoBulkAll parts + 1
  | .iface _ d => uptoBulk d + 1
  | .map entries => uptoBulkEntries entries + 1
  | .held _ => 1
def uptoBulkAll {H : Type} : List (DataW H) → Nat
  | [] => 0
  | d :: r => uptoBulk d + uptoBulkAll r
def uptoBulkEntries {H : Type} : List (Lit × DataW H) → Nat
  | [] => 0
  | x :: r => uptoBulkEntry x + uptoBulkEntries r
def uptoBulkEntry {H : Type} : Lit × DataW H → Nat
  | (.string bytes, d) => bytes.length + uptoBulk d + 1
  | (_, d) => uptoBulk d + 1
 end
def uptoSmall : (H : Type) → List (DataW H) → Bool := fun _ ds => decide (uptoBulkAll ds ≤ 1048576)
def OpenSpec.upto (s : _root_.Go.ChangeSpec) : _root_.Go.OpenSpec := { _root_.Go.OpenSpec.ofChange s with cond := some uptoSmall }

/-- 'nurserypylaw3.HeapActs', WHERE WHAT IT READS IS OF BULK AT MOST 1048576: true; the input reads as it did. -/
def heapActsUptoRow : OpenClaim := { program := "ytlkcbdinlfeoiaagreatdoor", sum := "8e9b2b61ea2d039d6f8b49055c84c1ce482aa4948bed72fb88303fe591b74180", func := "nurserypy/nurserypylaw3.HeapActs", spec := "heapActs", inPlace := ["internal/abi.NoEscape", "internal/bytealg.MakeNoZero", "internal/bytealg.CountString", "internal/bytealg.IndexByteString", "internal/bytealg.IndexString", "internal/reflectlite.ValueOf", "(internal/reflectlite.Value).Type", "(internal/reflectlite.Value).IsNil", "internal/reflectlite.TypeOf", "(internal/reflectlite.Value).Elem", "(internal/reflectlite.Value).Set"], unfollowed := true, recurses := true, named := ["nurserypy/api.ErrBound", "nurserypy/api.ErrFull", "nurserypy/api.ErrShape", "nurserypy/api.ErrPlace", "internal/strconv.uint64pow10", "math/bits.deBruijn32tab", "math/bits.deBruijn64tab", "unicode/utf8.first", "unicode/utf8.acceptRanges", "internal/bytealg.MaxLen", "nurserypy/api.ErrText", "nurserypy/api.ErrName", "nurserypy/api.ErrNone", "errors.errorType"], apart := false, laid := [("math/bits.deBruijn32tab", laid_math_bits_deBruijn32tab), ("math/bits.deBruijn64tab", laid_math_bits_deBruijn64tab), ("internal/strconv.uint64pow10", laid_internal_strconv_uint64pow10), ("unicode/utf8.acceptRanges", laid_unicode_utf8_acceptRanges), ("errors.errorType", laid_errors_errorType), ("nurserypy/api.ErrText", laid_nurserypy_api_ErrText), ("nurserypy/api.ErrBound", laid_nurserypy_api_ErrBound), ("nurserypy/api.ErrShape", laid_nurserypy_api_ErrShape), ("nurserypy/api.ErrName", laid_nurserypy_api_ErrName), ("nurserypy/api.ErrPlace", laid_nurserypy_api_ErrPlace), ("nurserypy/api.ErrFull", laid_nurserypy_api_ErrFull), ("nurserypy/api.ErrNone", laid_nurserypy_api_ErrNone), ("unicode/utf8.first", laid_unicode_utf8_first)], narrowed := true }
def HeapActsUptoSaid : Prop := heapActsUptoRow.holds Tryz.pinned (OpenSpec.upto heapActsSpec)

/-- 'nurserypylaw3.HeapAlike', WHERE WHAT IT READS IS OF BULK AT MOST 1048576: true; the input reads as it did. -/
def heapAlikeUptoRow : OpenClaim := { program := "ytlkcbdinlfeoiaagreatdoor", sum := "8e9b2b61ea2d039d6f8b49055c84c1ce482aa4948bed72fb88303fe591b74180", func := "nurserypy/nurserypylaw3.HeapAlike", spec := "heapAlike", inPlace := ["internal/abi.NoEscape", "internal/bytealg.MakeNoZero", "internal/bytealg.CountString", "internal/bytealg.IndexByteString", "internal/bytealg.IndexString", "internal/reflectlite.ValueOf", "(internal/reflectlite.Value).Type", "(internal/reflectlite.Value).IsNil", "internal/reflectlite.TypeOf", "(internal/reflectlite.Value).Elem", "(internal/reflectlite.Value).Set"], unfollowed := true, recurses := true, named := ["nurserypy/api.ErrBound", "nurserypy/api.ErrFull", "nurserypy/api.ErrShape", "nurserypy/api.ErrPlace", "internal/strconv.uint64pow10", "math/bits.deBruijn32tab", "math/bits.deBruijn64tab", "unicode/utf8.first", "unicode/utf8.acceptRanges", "internal/bytealg.MaxLen", "nurserypy/api.ErrText", "nurserypy/api.ErrName", "nurserypy/api.ErrNone", "errors.errorType"], apart := false, laid := [("math/bits.deBruijn32tab", laid_math_bits_deBruijn32tab), ("math/bits.deBruijn64tab", laid_math_bits_deBruijn64tab), ("internal/strconv.uint64pow10", laid_internal_strconv_uint64pow10), ("unicode/utf8.acceptRanges", laid_unicode_utf8_acceptRanges), ("errors.errorType", laid_errors_errorType), ("nurserypy/api.ErrText", laid_nurserypy_api_ErrText), ("nurserypy/api.ErrBound", laid_nurserypy_api_ErrBound), ("nurserypy/api.ErrShape", laid_nurserypy_api_ErrShape), ("nurserypy/api.ErrName", laid_nurserypy_api_ErrName), ("nurserypy/api.ErrPlace", laid_nurserypy_api_ErrPlace), ("nurserypy/api.ErrFull", laid_nurserypy_api_ErrFull), ("nurserypy/api.ErrNone", laid_nurserypy_api_ErrNone), ("unicode/utf8.first", laid_unicode_utf8_first)], narrowed := true }
def HeapAlikeUptoSaid : Prop := heapAlikeUptoRow.holds Tryz.pinned (OpenSpec.upto heapAlikeSpec)

/-- 'nurserypylaw3.HeapWeak', WHERE WHAT IT READS IS OF BULK AT MOST 1048576: true; the input reads as it did. -/
def heapWeakUptoRow : OpenClaim := { program := "ytlkcbdinlfeoiaagreatdoor", sum := "8e9b2b61ea2d039d6f8b49055c84c1ce482aa4948bed72fb88303fe591b74180", func := "nurserypy/nurserypylaw3.HeapWeak", spec := "heapWeak", inPlace := ["internal/abi.NoEscape", "internal/bytealg.MakeNoZero", "internal/bytealg.CountString", "internal/bytealg.IndexByteString", "internal/bytealg.IndexString"], unfollowed := true, recurses := true, named := ["nurserypy/api.ErrBound", "nurserypy/api.ErrFull", "nurserypy/api.ErrShape", "nurserypy/api.ErrPlace", "internal/strconv.uint64pow10", "math/bits.deBruijn32tab", "math/bits.deBruijn64tab", "unicode/utf8.first", "unicode/utf8.acceptRanges", "internal/bytealg.MaxLen"], apart := false, laid := [("math/bits.deBruijn32tab", laid_math_bits_deBruijn32tab), ("math/bits.deBruijn64tab", laid_math_bits_deBruijn64tab), ("internal/strconv.uint64pow10", laid_internal_strconv_uint64pow10), ("unicode/utf8.acceptRanges", laid_unicode_utf8_acceptRanges), ("nurserypy/api.ErrBound", laid_nurserypy_api_ErrBound), ("nurserypy/api.ErrShape", laid_nurserypy_api_ErrShape), ("nurserypy/api.ErrPlace", laid_nurserypy_api_ErrPlace), ("nurserypy/api.ErrFull", laid_nurserypy_api_ErrFull), ("unicode/utf8.first", laid_unicode_utf8_first)], narrowed := true }
def HeapWeakUptoSaid : Prop := heapWeakUptoRow.holds Tryz.pinned (OpenSpec.upto heapWeakSpec)

/-- 'nurserypylaw3.HeapCounts', WHERE WHAT IT READS IS OF BULK AT MOST 1048576: true; the input reads as it did. -/
def heapCountsUptoRow : OpenClaim := { program := "ytlkcbdinlfeoiaagreatdoor", sum := "8e9b2b61ea2d039d6f8b49055c84c1ce482aa4948bed72fb88303fe591b74180", func := "nurserypy/nurserypylaw3.HeapCounts", spec := "heapCounts", inPlace := ["internal/abi.NoEscape", "internal/bytealg.MakeNoZero", "internal/bytealg.CountString", "internal/bytealg.IndexByteString", "internal/bytealg.IndexString"], unfollowed := true, recurses := true, named := ["nurserypy/api.ErrBound", "nurserypy/api.ErrFull", "nurserypy/api.ErrShape", "nurserypy/api.ErrPlace", "internal/strconv.uint64pow10", "math/bits.deBruijn32tab", "math/bits.deBruijn64tab", "unicode/utf8.first", "unicode/utf8.acceptRanges", "internal/bytealg.MaxLen"], apart := false, laid := [("math/bits.deBruijn32tab", laid_math_bits_deBruijn32tab), ("math/bits.deBruijn64tab", laid_math_bits_deBruijn64tab), ("internal/strconv.uint64pow10", laid_internal_strconv_uint64pow10), ("unicode/utf8.acceptRanges", laid_unicode_utf8_acceptRanges), ("nurserypy/api.ErrBound", laid_nurserypy_api_ErrBound), ("nurserypy/api.ErrShape", laid_nurserypy_api_ErrShape), ("nurserypy/api.ErrPlace", laid_nurserypy_api_ErrPlace), ("nurserypy/api.ErrFull", laid_nurserypy_api_ErrFull), ("unicode/utf8.first", laid_unicode_utf8_first)], narrowed := true }
def HeapCountsUptoSaid : Prop := heapCountsUptoRow.holds Tryz.pinned (OpenSpec.upto heapCountsSpec)

/-- 'nurserypylaw3.HeapRings', WHERE WHAT IT READS IS OF BULK AT MOST 1048576: true; the input reads as it did. -/
def heapRingsUptoRow : OpenClaim := { program := "ytlkcbdinlfeoiaagreatdoor", sum := "8e9b2b61ea2d039d6f8b49055c84c1ce482aa4948bed72fb88303fe591b74180", func := "nurserypy/nurserypylaw3.HeapRings", spec := "heapRings", inPlace := ["internal/abi.NoEscape", "internal/bytealg.MakeNoZero", "internal/bytealg.CountString", "internal/bytealg.IndexByteString", "internal/bytealg.IndexString"], unfollowed := true, recurses := true, named := ["nurserypy/api.ErrBound", "nurserypy/api.ErrFull", "nurserypy/api.ErrShape", "nurserypy/api.ErrPlace", "internal/strconv.uint64pow10", "math/bits.deBruijn32tab", "math/bits.deBruijn64tab", "unicode/utf8.first", "unicode/utf8.acceptRanges", "internal/bytealg.MaxLen"], apart := false, laid := [("math/bits.deBruijn32tab", laid_math_bits_deBruijn32tab), ("math/bits.deBruijn64tab", laid_math_bits_deBruijn64tab), ("internal/strconv.uint64pow10", laid_internal_strconv_uint64pow10), ("unicode/utf8.acceptRanges", laid_unicode_utf8_acceptRanges), ("nurserypy/api.ErrBound", laid_nurserypy_api_ErrBound), ("nurserypy/api.ErrShape", laid_nurserypy_api_ErrShape), ("nurserypy/api.ErrPlace", laid_nurserypy_api_ErrPlace), ("nurserypy/api.ErrFull", laid_nurserypy_api_ErrFull), ("unicode/utf8.first", laid_unicode_utf8_first)], narrowed := true }
def HeapRingsUptoSaid : Prop := heapRingsUptoRow.holds Tryz.pinned (OpenSpec.upto heapRingsSpec)

/-- 'nurserypylaw3.HeapTrees', WHERE WHAT IT READS IS OF BULK AT MOST 1048576: true; the input reads as it did. -/
def heapTreesUptoRow : OpenClaim := { program := "ytlkcbdinlfeoiaagreatdoor", sum := "8e9b2b61ea2d039d6f8b49055c84c1ce482aa4948bed72fb88303fe591b74180", func := "nurserypy/nurserypylaw3.HeapTrees", spec := "heapTrees", inPlace := ["internal/abi.NoEscape", "internal/bytealg.MakeNoZero", "internal/bytealg.CountString", "internal/bytealg.IndexByteString", "internal/bytealg.IndexString"], unfollowed := true, recurses := true, named := ["nurserypy/api.ErrBound", "nurserypy/api.ErrFull", "nurserypy/api.ErrShape", "nurserypy/api.ErrPlace", "internal/strconv.uint64pow10", "math/bits.deBruijn32tab", "math/bits.deBruijn64tab", "unicode/utf8.first", "unicode/utf8.acceptRanges", "internal/bytealg.MaxLen"], apart := false, laid := [("math/bits.deBruijn32tab", laid_math_bits_deBruijn32tab), ("math/bits.deBruijn64tab", laid_math_bits_deBruijn64tab), ("internal/strconv.uint64pow10", laid_internal_strconv_uint64pow10), ("unicode/utf8.acceptRanges", laid_unicode_utf8_acceptRanges), ("nurserypy/api.ErrBound", laid_nurserypy_api_ErrBound), ("nurserypy/api.ErrShape", laid_nurserypy_api_ErrShape), ("nurserypy/api.ErrPlace", laid_nurserypy_api_ErrPlace), ("nurserypy/api.ErrFull", laid_nurserypy_api_ErrFull), ("unicode/utf8.first", laid_unicode_utf8_first)], narrowed := true }
def HeapTreesUptoSaid : Prop := heapTreesUptoRow.holds Tryz.pinned (OpenSpec.upto heapTreesSpec)

end Rows
end Go.Proofs.YtlkcbdinlfeoiaaGreatDoor
