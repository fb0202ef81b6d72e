/-
  NARROWER THAN 'FOR EVERY INPUT', by the rows' own cells (each row's printed sentence says how): FnFixed: laid · FnFixTexts: laid · FnExactFixAdd: laid · FnExactFixSub: laid · FnExactFixMul: laid · FnExactFixNeg: laid · FnExactRelu: laid · FnExactShowFix: laid · FnExactReadFix: laid.
  DERIVED. THE GIVEN ROWS OF THIS SEAT. 9 by the template 'for every input the law returns true; each argument reads behind the call as it read before'; 0 by the template 'total and deterministic' (their statements: YthficfeiomddmaaDoorTotals.lean).
  GIVEN WITH THE SEED: the statements are not yours to turn. If you find one false, say at which input.
  Laid BY PROGRAM, IN A SANDBOX (cutbox-rows.mjs): the forced cells as the released guide's own fill.sh prints them over the translation 283b7030867664a1… (all of the seat's roots in one cut). By AI agents, Wed Nov 11 2026. No macro, syntax, notation, axiom, sorry.
-/
import Derived.Test.YthficfeiomddmaaDoorChecked
import GoSem.Claim
import GoSem.ClaimJoined
import GoSem.ClaimMapViews
import Derived.JoinedTies
import Derived.KernelRfl
namespace Go.Proofs.YthficfeiomddmaaDoor
/- THE CELL 'sum', in the pinned program and in every row, IS THE sha256 OF THE DUMP (.gsa) THAT YthficfeiomddmaaDoorProg.lean LOADS. Nothing in Lean hashes anything: it is a label: what it is worth is what the hold of that sum in a sandbox is worth. -/
noncomputable def Tryd.pinned : Pinned := { name := "ythficfeiomddmaadoor", sum := "283b7030867664a1fc72b624fbda0a1bf6cfd7b8795e30925ccfe83dddd58318", checked := Tryd.checked }
namespace Rows
def none {H : Type} : Left H := { results := [], args := [] }

/- WHAT THE LISTED PACKAGE-LEVEL VARIABLES READ AS WHEN THE CALL BEGINS. Each datum BY PROGRAM (the guide's laid-datum.mjs) off the statement by which the dump's own 'gosem.cut.vars' lays the variable. In a bare row this is a premise. The card (YthficfeiomddmaaDoorCards.lean) ties it to the program's text. -/
def laid_errors_errorType {H : Type} : DataW H := .iface "internal/reflectlite.rtype" (.agg [.ptr (.lit (.string [101, 114, 114, 111, 114]))])
def laid_math_bits_deBruijn32tab {H : Type} : DataW H := .agg [.lit (.int .u8 0), .lit (.int .u8 1), .lit (.int .u8 28), .lit (.int .u8 2), .lit (.int .u8 29), .lit (.int .u8 14), .lit (.int .u8 24), .lit (.int .u8 3), .lit (.int .u8 30), .lit (.int .u8 22), .lit (.int .u8 20), .lit (.int .u8 15), .lit (.int .u8 25), .lit (.int .u8 17), .lit (.int .u8 4), .lit (.int .u8 8), .lit (.int .u8 31), .lit (.int .u8 27), .lit (.int .u8 13), .lit (.int .u8 23), .lit (.int .u8 21), .lit (.int .u8 19), .lit (.int .u8 16), .lit (.int .u8 7), .lit (.int .u8 26), .lit (.int .u8 12), .lit (.int .u8 18), .lit (.int .u8 6), .lit (.int .u8 11), .lit (.int .u8 5), .lit (.int .u8 10), .lit (.int .u8 9)]
def laid_math_bits_deBruijn64tab {H : Type} : DataW H := .agg [.lit (.int .u8 0), .lit (.int .u8 1), .lit (.int .u8 56), .lit (.int .u8 2), .lit (.int .u8 57), .lit (.int .u8 49), .lit (.int .u8 28), .lit (.int .u8 3), .lit (.int .u8 61), .lit (.int .u8 58), .lit (.int .u8 42), .lit (.int .u8 50), .lit (.int .u8 38), .lit (.int .u8 29), .lit (.int .u8 17), .lit (.int .u8 4), .lit (.int .u8 62), .lit (.int .u8 47), .lit (.int .u8 59), .lit (.int .u8 36), .lit (.int .u8 45), .lit (.int .u8 43), .lit (.int .u8 51), .lit (.int .u8 22), .lit (.int .u8 53), .lit (.int .u8 39), .lit (.int .u8 33), .lit (.int .u8 30), .lit (.int .u8 24), .lit (.int .u8 18), .lit (.int .u8 12), .lit (.int .u8 5), .lit (.int .u8 63), .lit (.int .u8 55), .lit (.int .u8 48), .lit (.int .u8 27), .lit (.int .u8 60), .lit (.int .u8 41), .lit (.int .u8 37), .lit (.int .u8 16), .lit (.int .u8 46), .lit (.int .u8 35), .lit (.int .u8 44), .lit (.int .u8 21), .lit (.int .u8 52), .lit (.int .u8 32), .lit (.int .u8 23), .lit (.int .u8 11), .lit (.int .u8 54), .lit (.int .u8 26), .lit (.int .u8 40), .lit (.int .u8 15), .lit (.int .u8 34), .lit (.int .u8 20), .lit (.int .u8 31), .lit (.int .u8 10), .lit (.int .u8 25), .lit (.int .u8 14), .lit (.int .u8 19), .lit (.int .u8 9), .lit (.int .u8 13), .lit (.int .u8 8), .lit (.int .u8 7), .lit (.int .u8 6)]
def laid_internal_strconv_uint64pow10 {H : Type} : DataW H := .agg [.lit (.int .u64 1), .lit (.int .u64 10), .lit (.int .u64 100), .lit (.int .u64 1000), .lit (.int .u64 10000), .lit (.int .u64 100000), .lit (.int .u64 1000000), .lit (.int .u64 10000000), .lit (.int .u64 100000000), .lit (.int .u64 1000000000), .lit (.int .u64 10000000000), .lit (.int .u64 100000000000), .lit (.int .u64 1000000000000), .lit (.int .u64 10000000000000), .lit (.int .u64 100000000000000), .lit (.int .u64 1000000000000000), .lit (.int .u64 10000000000000000), .lit (.int .u64 100000000000000000), .lit (.int .u64 1000000000000000000), .lit (.int .u64 10000000000000000000)]
def laid_strconv_ErrRange {H : Type} : DataW H := .iface "*errors.errorString" (.ptr (.agg [.lit (.string [118, 97, 108, 117, 101, 32, 111, 117, 116, 32, 111, 102, 32, 114, 97, 110, 103, 101])]))
def laid_strconv_ErrSyntax {H : Type} : DataW H := .iface "*errors.errorString" (.ptr (.agg [.lit (.string [105, 110, 118, 97, 108, 105, 100, 32, 115, 121, 110, 116, 97, 120])]))

/-- 'laws.FnFixed': WHATEVER THE INPUT: true; the input reads as it did. -/
def fnFixedSpec : ChangeSpec := { name := "fnFixed", fn := fun _ => fun
  | [d] => { results := [.lit (.bool true)], args := [d] }
  | _ => none }
def fnFixedRow : OpenClaim := { program := "ythficfeiomddmaadoor", sum := "283b7030867664a1fc72b624fbda0a1bf6cfd7b8795e30925ccfe83dddd58318", func := "loop.example/g01407/laws.FnFixed", spec := "fnFixed", inPlace := ["internal/reflectlite.ValueOf", "(internal/reflectlite.Value).Type", "(internal/reflectlite.Value).IsNil", "internal/reflectlite.TypeOf", "(internal/reflectlite.Value).Elem", "(internal/reflectlite.Value).Set"], unfollowed := true, recurses := true, named := ["errors.errorType"], apart := false, laid := [("errors.errorType", laid_errors_errorType)] }
def FnFixedSaid : Prop := fnFixedRow.holds Tryd.pinned (OpenSpec.ofChange fnFixedSpec)

/-- ITS FALSE NEIGHBOUR: 'it returns false'. Refute it at one input. -/
def fnFixedWrong : ChangeSpec := { name := "fnFixed", fn := fun _ => fun
  | [d] => { results := [.lit (.bool false)], args := [d] }
  | _ => none }
def FnFixedWrongFalsely : Prop := fnFixedRow.holds Tryd.pinned (OpenSpec.ofChange fnFixedWrong)

/-- 'laws.FnFixTexts': WHATEVER THE INPUT: true; the input reads as it did. -/
def fnFixTextsSpec : ChangeSpec := { name := "fnFixTexts", fn := fun _ => fun
  | [d] => { results := [.lit (.bool true)], args := [d] }
  | _ => none }
def fnFixTextsRow : OpenClaim := { program := "ythficfeiomddmaadoor", sum := "283b7030867664a1fc72b624fbda0a1bf6cfd7b8795e30925ccfe83dddd58318", func := "loop.example/g01407/laws.FnFixTexts", spec := "fnFixTexts", inPlace := ["internal/bytealg.IndexByteString", "internal/bytealg.IndexString"], named := ["internal/strconv.uint64pow10", "math/bits.deBruijn32tab", "math/bits.deBruijn64tab", "internal/bytealg.MaxLen", "strconv.ErrSyntax", "strconv.ErrRange"], apart := false, laid := [("math/bits.deBruijn32tab", laid_math_bits_deBruijn32tab), ("math/bits.deBruijn64tab", laid_math_bits_deBruijn64tab), ("internal/strconv.uint64pow10", laid_internal_strconv_uint64pow10), ("strconv.ErrRange", laid_strconv_ErrRange), ("strconv.ErrSyntax", laid_strconv_ErrSyntax)] }
def FnFixTextsSaid : Prop := fnFixTextsRow.holds Tryd.pinned (OpenSpec.ofChange fnFixTextsSpec)

/-- ITS FALSE NEIGHBOUR: 'it returns false'. Refute it at one input. -/
def fnFixTextsWrong : ChangeSpec := { name := "fnFixTexts", fn := fun _ => fun
  | [d] => { results := [.lit (.bool false)], args := [d] }
  | _ => none }
def FnFixTextsWrongFalsely : Prop := fnFixTextsRow.holds Tryd.pinned (OpenSpec.ofChange fnFixTextsWrong)

/-- 'laws.FnExactFixAdd': WHATEVER THE INPUT: true; the input reads as it did. -/
def fnExactFixAddSpec : ChangeSpec := { name := "fnExactFixAdd", fn := fun _ => fun
  | [d1, d2] => { results := [.lit (.bool true)], args := [d1, d2] }
  | _ => none }
def fnExactFixAddRow : OpenClaim := { program := "ythficfeiomddmaadoor", sum := "283b7030867664a1fc72b624fbda0a1bf6cfd7b8795e30925ccfe83dddd58318", func := "loop.example/g01407/laws.FnExactFixAdd", spec := "fnExactFixAdd", inPlace := ["internal/reflectlite.ValueOf", "(internal/reflectlite.Value).Type", "(internal/reflectlite.Value).IsNil", "internal/reflectlite.TypeOf", "(internal/reflectlite.Value).Elem", "(internal/reflectlite.Value).Set"], unfollowed := true, recurses := true, named := ["errors.errorType"], apart := false, laid := [("errors.errorType", laid_errors_errorType)] }
def FnExactFixAddSaid : Prop := fnExactFixAddRow.holds Tryd.pinned (OpenSpec.ofChange fnExactFixAddSpec)

/-- ITS FALSE NEIGHBOUR: 'it returns false'. Refute it at one input. -/
def fnExactFixAddWrong : ChangeSpec := { name := "fnExactFixAdd", fn := fun _ => fun
  | [d1, d2] => { results := [.lit (.bool false)], args := [d1, d2] }
  | _ => none }
def FnExactFixAddWrongFalsely : Prop := fnExactFixAddRow.holds Tryd.pinned (OpenSpec.ofChange fnExactFixAddWrong)

/-- 'laws.FnExactFixSub': WHATEVER THE INPUT: true; the input reads as it did. -/
def fnExactFixSubSpec : ChangeSpec := { name := "fnExactFixSub", fn := fun _ => fun
  | [d1, d2] => { results := [.lit (.bool true)], args := [d1, d2] }
  | _ => none }
def fnExactFixSubRow : OpenClaim := { program := "ythficfeiomddmaadoor", sum := "283b7030867664a1fc72b624fbda0a1bf6cfd7b8795e30925ccfe83dddd58318", func := "loop.example/g01407/laws.FnExactFixSub", spec := "fnExactFixSub", inPlace := ["internal/reflectlite.ValueOf", "(internal/reflectlite.Value).Type", "(internal/reflectlite.Value).IsNil", "internal/reflectlite.TypeOf", "(internal/reflectlite.Value).Elem", "(internal/reflectlite.Value).Set"], unfollowed := true, recurses := true, named := ["errors.errorType"], apart := false, laid := [("errors.errorType", laid_errors_errorType)] }
def FnExactFixSubSaid : Prop := fnExactFixSubRow.holds Tryd.pinned (OpenSpec.ofChange fnExactFixSubSpec)

/-- ITS FALSE NEIGHBOUR: 'it returns false'. Refute it at one input. -/
def fnExactFixSubWrong : ChangeSpec := { name := "fnExactFixSub", fn := fun _ => fun
  | [d1, d2] => { results := [.lit (.bool false)], args := [d1, d2] }
  | _ => none }
def FnExactFixSubWrongFalsely : Prop := fnExactFixSubRow.holds Tryd.pinned (OpenSpec.ofChange fnExactFixSubWrong)

/-- 'laws.FnExactFixMul': WHATEVER THE INPUT: true; the input reads as it did. -/
def fnExactFixMulSpec : ChangeSpec := { name := "fnExactFixMul", fn := fun _ => fun
  | [d1, d2] => { results := [.lit (.bool true)], args := [d1, d2] }
  | _ => none }
def fnExactFixMulRow : OpenClaim := { program := "ythficfeiomddmaadoor", sum := "283b7030867664a1fc72b624fbda0a1bf6cfd7b8795e30925ccfe83dddd58318", func := "loop.example/g01407/laws.FnExactFixMul", spec := "fnExactFixMul", inPlace := ["internal/reflectlite.ValueOf", "(internal/reflectlite.Value).Type", "(internal/reflectlite.Value).IsNil", "internal/reflectlite.TypeOf", "(internal/reflectlite.Value).Elem", "(internal/reflectlite.Value).Set"], unfollowed := true, recurses := true, named := ["errors.errorType"], apart := false, laid := [("errors.errorType", laid_errors_errorType)] }
def FnExactFixMulSaid : Prop := fnExactFixMulRow.holds Tryd.pinned (OpenSpec.ofChange fnExactFixMulSpec)

/-- ITS FALSE NEIGHBOUR: 'it returns false'. Refute it at one input. -/
def fnExactFixMulWrong : ChangeSpec := { name := "fnExactFixMul", fn := fun _ => fun
  | [d1, d2] => { results := [.lit (.bool false)], args := [d1, d2] }
  | _ => none }
def FnExactFixMulWrongFalsely : Prop := fnExactFixMulRow.holds Tryd.pinned (OpenSpec.ofChange fnExactFixMulWrong)

/-- 'laws.FnExactFixNeg': WHATEVER THE INPUT: true; the input reads as it did. -/
def fnExactFixNegSpec : ChangeSpec := { name := "fnExactFixNeg", fn := fun _ => fun
  | [d] => { results := [.lit (.bool true)], args := [d] }
  | _ => none }
def fnExactFixNegRow : OpenClaim := { program := "ythficfeiomddmaadoor", sum := "283b7030867664a1fc72b624fbda0a1bf6cfd7b8795e30925ccfe83dddd58318", func := "loop.example/g01407/laws.FnExactFixNeg", spec := "fnExactFixNeg", inPlace := ["internal/reflectlite.ValueOf", "(internal/reflectlite.Value).Type", "(internal/reflectlite.Value).IsNil", "internal/reflectlite.TypeOf", "(internal/reflectlite.Value).Elem", "(internal/reflectlite.Value).Set"], unfollowed := true, recurses := true, named := ["errors.errorType"], apart := false, laid := [("errors.errorType", laid_errors_errorType)] }
def FnExactFixNegSaid : Prop := fnExactFixNegRow.holds Tryd.pinned (OpenSpec.ofChange fnExactFixNegSpec)

/-- ITS FALSE NEIGHBOUR: 'it returns false'. Refute it at one input. -/
def fnExactFixNegWrong : ChangeSpec := { name := "fnExactFixNeg", fn := fun _ => fun
  | [d] => { results := [.lit (.bool false)], args := [d] }
  | _ => none }
def FnExactFixNegWrongFalsely : Prop := fnExactFixNegRow.holds Tryd.pinned (OpenSpec.ofChange fnExactFixNegWrong)

/-- 'laws.FnExactRelu': WHATEVER THE INPUT: true; the input reads as it did. -/
def fnExactReluSpec : ChangeSpec := { name := "fnExactRelu", fn := fun _ => fun
  | [d] => { results := [.lit (.bool true)], args := [d] }
  | _ => none }
def fnExactReluRow : OpenClaim := { program := "ythficfeiomddmaadoor", sum := "283b7030867664a1fc72b624fbda0a1bf6cfd7b8795e30925ccfe83dddd58318", func := "loop.example/g01407/laws.FnExactRelu", spec := "fnExactRelu", inPlace := ["internal/reflectlite.ValueOf", "(internal/reflectlite.Value).Type", "(internal/reflectlite.Value).IsNil", "internal/reflectlite.TypeOf", "(internal/reflectlite.Value).Elem", "(internal/reflectlite.Value).Set"], unfollowed := true, recurses := true, named := ["errors.errorType"], apart := false, laid := [("errors.errorType", laid_errors_errorType)] }
def FnExactReluSaid : Prop := fnExactReluRow.holds Tryd.pinned (OpenSpec.ofChange fnExactReluSpec)

/-- ITS FALSE NEIGHBOUR: 'it returns false'. Refute it at one input. -/
def fnExactReluWrong : ChangeSpec := { name := "fnExactRelu", fn := fun _ => fun
  | [d] => { results := [.lit (.bool false)], args := [d] }
  | _ => none }
def FnExactReluWrongFalsely : Prop := fnExactReluRow.holds Tryd.pinned (OpenSpec.ofChange fnExactReluWrong)

/-- 'laws.FnExactShowFix': WHATEVER THE INPUT: true; the input reads as it did. -/
def fnExactShowFixSpec : ChangeSpec := { name := "fnExactShowFix", fn := fun _ => fun
  | [d] => { results := [.lit (.bool true)], args := [d] }
  | _ => none }
def fnExactShowFixRow : OpenClaim := { program := "ythficfeiomddmaadoor", sum := "283b7030867664a1fc72b624fbda0a1bf6cfd7b8795e30925ccfe83dddd58318", func := "loop.example/g01407/laws.FnExactShowFix", spec := "fnExactShowFix", named := ["internal/strconv.uint64pow10", "math/bits.deBruijn32tab", "math/bits.deBruijn64tab"], apart := false, laid := [("math/bits.deBruijn32tab", laid_math_bits_deBruijn32tab), ("math/bits.deBruijn64tab", laid_math_bits_deBruijn64tab), ("internal/strconv.uint64pow10", laid_internal_strconv_uint64pow10)] }
def FnExactShowFixSaid : Prop := fnExactShowFixRow.holds Tryd.pinned (OpenSpec.ofChange fnExactShowFixSpec)

/-- ITS FALSE NEIGHBOUR: 'it returns false'. Refute it at one input. -/
def fnExactShowFixWrong : ChangeSpec := { name := "fnExactShowFix", fn := fun _ => fun
  | [d] => { results := [.lit (.bool false)], args := [d] }
  | _ => none }
def FnExactShowFixWrongFalsely : Prop := fnExactShowFixRow.holds Tryd.pinned (OpenSpec.ofChange fnExactShowFixWrong)

/-- 'laws.FnExactReadFix': WHATEVER THE INPUT: true; the input reads as it did. -/
def fnExactReadFixSpec : ChangeSpec := { name := "fnExactReadFix", fn := fun _ => fun
  | [d] => { results := [.lit (.bool true)], args := [d] }
  | _ => none }
def fnExactReadFixRow : OpenClaim := { program := "ythficfeiomddmaadoor", sum := "283b7030867664a1fc72b624fbda0a1bf6cfd7b8795e30925ccfe83dddd58318", func := "loop.example/g01407/laws.FnExactReadFix", spec := "fnExactReadFix", inPlace := ["internal/bytealg.IndexByteString", "internal/bytealg.IndexString"], named := ["internal/bytealg.MaxLen", "strconv.ErrSyntax", "strconv.ErrRange", "internal/strconv.uint64pow10", "math/bits.deBruijn32tab", "math/bits.deBruijn64tab"], apart := false, laid := [("math/bits.deBruijn32tab", laid_math_bits_deBruijn32tab), ("math/bits.deBruijn64tab", laid_math_bits_deBruijn64tab), ("internal/strconv.uint64pow10", laid_internal_strconv_uint64pow10), ("strconv.ErrRange", laid_strconv_ErrRange), ("strconv.ErrSyntax", laid_strconv_ErrSyntax)] }
def FnExactReadFixSaid : Prop := fnExactReadFixRow.holds Tryd.pinned (OpenSpec.ofChange fnExactReadFixSpec)

/-- ITS FALSE NEIGHBOUR: 'it returns false'. Refute it at one input. -/
def fnExactReadFixWrong : ChangeSpec := { name := "fnExactReadFix", fn := fun _ => fun
  | [d] => { results := [.lit (.bool false)], args := [d] }
  | _ => none }
def FnExactReadFixWrongFalsely : Prop := fnExactReadFixRow.holds Tryd.pinned (OpenSpec.ofChange fnExactReadFixWrong)

/- THE SECOND FORM. 'bulk': how many values and letters a reading holds, each counted each time it is reached (what is shared counts as often as it is met; a slice's spare places count too). A statement '..UptoSaid' is the law's where the arguments, and the package variables that the reading takes, are together of bulk at most 1048576: NARROWER than '..Said'. Prove '..Said' where nothing that the law and all that it calls make is longer than what came in: it says more and counts as full. Else prove '..UptoSaid'. A law counts once. -/
mutual
def uptoBulk {H : Type} : DataW H → Nat
  | .lit (.string bytes) => bytes.length + 1
  | .lit _ => 1
  | .nil => 1
  | .ptr d => uptoBulk d + 1
  | .slice elems spare => uptoBulkAll elems + uptoBulkAll spare + 1
  | .agg parts => uptoBulkAll parts + 1
  | .iface _ d => uptoBulk d + 1
  | .map entries => uptoBulkEntries entries + 1
  | .held _ => 1
def uptoBulkAll {H : Type} : List (DataW H) → Nat
  | [] => 0
  | d :: r => uptoBulk d + uptoBulkAll r
def uptoBulkEntries {H : Type} : List (Lit × DataW H) → Nat
  | [] => 0
  | x :: r => uptoBulkEntry x + uptoBulkEntries r
def uptoBulkEntry {H : Type} : Lit × DataW H → Nat
  | (.string bytes, d) => bytes.length + uptoBulk d + 1
  | (_, d) => uptoBulk d + 1
 end
def uptoSmall : (H : Type) → List (DataW H) → Bool := fun _ ds => decide (uptoBulkAll ds ≤ 1048576)
def OpenSpec.upto (s : _root_.Go.ChangeSpec) : _root_.Go.OpenSpec := { _root_.Go.OpenSpec.ofChange s with cond := some uptoSmall }

/-- 'laws.FnFixed', WHERE WHAT IT READS IS OF BULK AT MOST 1048576: true; the input reads as it did. -/
def fnFixedUptoRow : OpenClaim := { program := "ythficfeiomddmaadoor", sum := "283b7030867664a1fc72b624fbda0a1bf6cfd7b8795e30925ccfe83dddd58318", func := "loop.example/g01407/laws.FnFixed", spec := "fnFixed", inPlace := ["internal/reflectlite.ValueOf", "(internal/reflectlite.Value).Type", "(internal/reflectlite.Value).IsNil", "internal/reflectlite.TypeOf", "(internal/reflectlite.Value).Elem", "(internal/reflectlite.Value).Set"], unfollowed := true, recurses := true, named := ["errors.errorType"], apart := false, laid := [("errors.errorType", laid_errors_errorType)], narrowed := true }
def FnFixedUptoSaid : Prop := fnFixedUptoRow.holds Tryd.pinned (OpenSpec.upto fnFixedSpec)

/-- 'laws.FnFixTexts', WHERE WHAT IT READS IS OF BULK AT MOST 1048576: true; the input reads as it did. -/
def fnFixTextsUptoRow : OpenClaim := { program := "ythficfeiomddmaadoor", sum := "283b7030867664a1fc72b624fbda0a1bf6cfd7b8795e30925ccfe83dddd58318", func := "loop.example/g01407/laws.FnFixTexts", spec := "fnFixTexts", inPlace := ["internal/bytealg.IndexByteString", "internal/bytealg.IndexString"], named := ["internal/strconv.uint64pow10", "math/bits.deBruijn32tab", "math/bits.deBruijn64tab", "internal/bytealg.MaxLen", "strconv.ErrSyntax", "strconv.ErrRange"], apart := false, laid := [("math/bits.deBruijn32tab", laid_math_bits_deBruijn32tab), ("math/bits.deBruijn64tab", laid_math_bits_deBruijn64tab), ("internal/strconv.uint64pow10", laid_internal_strconv_uint64pow10), ("strconv.ErrRange", laid_strconv_ErrRange), ("strconv.ErrSyntax", laid_strconv_ErrSyntax)], narrowed := true }
def FnFixTextsUptoSaid : Prop := fnFixTextsUptoRow.holds Tryd.pinned (OpenSpec.upto fnFixTextsSpec)

/-- 'laws.FnExactFixAdd', WHERE WHAT IT READS IS OF BULK AT MOST 1048576: true; the input reads as it did. -/
def fnExactFixAddUptoRow : OpenClaim := { program := "ythficfeiomddmaadoor", sum := "283b7030867664a1fc72b624fbda0a1bf6cfd7b8795e30925ccfe83dddd58318", func := "loop.example/g01407/laws.FnExactFixAdd", spec := "fnExactFixAdd", inPlace := ["internal/reflectlite.ValueOf", "(internal/reflectlite.Value).Type", "(internal/reflectlite.Value).IsNil", "internal/reflectlite.TypeOf", "(internal/reflectlite.Value).Elem", "(internal/reflectlite.Value).Set"], unfollowed := true, recurses := true, named := ["errors.errorType"], apart := false, laid := [("errors.errorType", laid_errors_errorType)], narrowed := true }
def FnExactFixAddUptoSaid : Prop := fnExactFixAddUptoRow.holds Tryd.pinned (OpenSpec.upto fnExactFixAddSpec)

/-- 'laws.FnExactFixSub', WHERE WHAT IT READS IS OF BULK AT MOST 1048576: true; the input reads as it did. -/
def fnExactFixSubUptoRow : OpenClaim := { program := "ythficfeiomddmaadoor", sum := "283b7030867664a1fc72b624fbda0a1bf6cfd7b8795e30925ccfe83dddd58318", func := "loop.example/g01407/laws.FnExactFixSub", spec := "fnExactFixSub", inPlace := ["internal/reflectlite.ValueOf", "(internal/reflectlite.Value).Type", "(internal/reflectlite.Value).IsNil", "internal/reflectlite.TypeOf", "(internal/reflectlite.Value).Elem", "(internal/reflectlite.Value).Set"], unfollowed := true, recurses := true, named := ["errors.errorType"], apart := false, laid := [("errors.errorType", laid_errors_errorType)], narrowed := true }
def FnExactFixSubUptoSaid : Prop := fnExactFixSubUptoRow.holds Tryd.pinned (OpenSpec.upto fnExactFixSubSpec)

/-- 'laws.FnExactFixMul', WHERE WHAT IT READS IS OF BULK AT MOST 1048576: true; the input reads as it did. -/
def fnExactFixMulUptoRow : OpenClaim := { program := "ythficfeiomddmaadoor", sum := "283b7030867664a1fc72b624fbda0a1bf6cfd7b8795e30925ccfe83dddd58318", func := "loop.example/g01407/laws.FnExactFixMul", spec := "fnExactFixMul", inPlace := ["internal/reflectlite.ValueOf", "(internal/reflectlite.Value).Type", "(internal/reflectlite.Value).IsNil", "internal/reflectlite.TypeOf", "(internal/reflectlite.Value).Elem", "(internal/reflectlite.Value).Set"], unfollowed := true, recurses := true, named := ["errors.errorType"], apart := false, laid := [("errors.errorType", laid_errors_errorType)], narrowed := true }
def FnExactFixMulUptoSaid : Prop := fnExactFixMulUptoRow.holds Tryd.pinned (OpenSpec.upto fnExactFixMulSpec)

/-- 'laws.FnExactFixNeg', WHERE WHAT IT READS IS OF BULK AT MOST 1048576: true; the input reads as it did. -/
def fnExactFixNegUptoRow : OpenClaim := { program := "ythficfeiomddmaadoor", sum := "283b7030867664a1fc72b624fbda0a1bf6cfd7b8795e30925ccfe83dddd58318", func := "loop.example/g01407/laws.FnExactFixNeg", spec := "fnExactFixNeg", inPlace := ["internal/reflectlite.ValueOf", "(internal/reflectlite.Value).Type", "(internal/reflectlite.Value).IsNil", "internal/reflectlite.TypeOf", "(internal/reflectlite.Value).Elem", "(internal/reflectlite.Value).Set"], unfollowed := true, recurses := true, named := ["errors.errorType"], apart := false, laid := [("errors.errorType", laid_errors_errorType)], narrowed := true }
def FnExactFixNegUptoSaid : Prop := fnExactFixNegUptoRow.holds Tryd.pinned (OpenSpec.upto fnExactFixNegSpec)

/-- 'laws.FnExactRelu', WHERE WHAT IT READS IS OF BULK AT MOST 1048576: true; the input reads as it did. -/
def fnExactReluUptoRow : OpenClaim := { program := "ythficfeiomddmaadoor", sum := "283b7030867664a1fc72b624fbda0a1bf6cfd7b8795e30925ccfe83dddd58318", func := "loop.example/g01407/laws.FnExactRelu", spec := "fnExactRelu", inPlace := ["internal/reflectlite.ValueOf", "(internal/reflectlite.Value).Type", "(internal/reflectlite.Value).IsNil", "internal/reflectlite.TypeOf", "(internal/reflectlite.Value).Elem", "(internal/reflectlite.Value).Set"], unfollowed := true, recurses := true, named := ["errors.errorType"], apart := false, laid := [("errors.errorType", laid_errors_errorType)], narrowed := true }
def FnExactReluUptoSaid : Prop := fnExactReluUptoRow.holds Tryd.pinned (OpenSpec.upto fnExactReluSpec)

/-- 'laws.FnExactShowFix', WHERE WHAT IT READS IS OF BULK AT MOST 1048576: true; the input reads as it did. -/
def fnExactShowFixUptoRow : OpenClaim := { program := "ythficfeiomddmaadoor", sum := "283b7030867664a1fc72b624fbda0a1bf6cfd7b8795e30925ccfe83dddd58318", func := "loop.example/g01407/laws.FnExactShowFix", spec := "fnExactShowFix", named := ["internal/strconv.uint64pow10", "math/bits.deBruijn32tab", "math/bits.deBruijn64tab"], apart := false, laid := [("math/bits.deBruijn32tab", laid_math_bits_deBruijn32tab), ("math/bits.deBruijn64tab", laid_math_bits_deBruijn64tab), ("internal/strconv.uint64pow10", laid_internal_strconv_uint64pow10)], narrowed := true }
def FnExactShowFixUptoSaid : Prop := fnExactShowFixUptoRow.holds Tryd.pinned (OpenSpec.upto fnExactShowFixSpec)

/-- 'laws.FnExactReadFix', WHERE WHAT IT READS IS OF BULK AT MOST 1048576: true; the input reads as it did. -/
def fnExactReadFixUptoRow : OpenClaim := { program := "ythficfeiomddmaadoor", sum := "283b7030867664a1fc72b624fbda0a1bf6cfd7b8795e30925ccfe83dddd58318", func := "loop.example/g01407/laws.FnExactReadFix", spec := "fnExactReadFix", inPlace := ["internal/bytealg.IndexByteString", "internal/bytealg.IndexString"], named := ["internal/bytealg.MaxLen", "strconv.ErrSyntax", "strconv.ErrRange", "internal/strconv.uint64pow10", "math/bits.deBruijn32tab", "math/bits.deBruijn64tab"], apart := false, laid := [("math/bits.deBruijn32tab", laid_math_bits_deBruijn32tab), ("math/bits.deBruijn64tab", laid_math_bits_deBruijn64tab), ("internal/strconv.uint64pow10", laid_internal_strconv_uint64pow10), ("strconv.ErrRange", laid_strconv_ErrRange), ("strconv.ErrSyntax", laid_strconv_ErrSyntax)], narrowed := true }
def FnExactReadFixUptoSaid : Prop := fnExactReadFixUptoRow.holds Tryd.pinned (OpenSpec.upto fnExactReadFixSpec)

end Rows
end Go.Proofs.YthficfeiomddmaaDoor
